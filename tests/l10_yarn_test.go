package tests

import (
	"fmt"
	"math"
	"slices"
	"testing"

	"loop.example/g01023/impl"
)

// yarnOf returns a Yarn with balls of 1 meter.
func yarnOf(pile, grip, waste int) impl.Yarn {
	return impl.Yarn{Pile: pile, Grip: grip, Waste: waste, Ball: 1}
}

// someYarns returns Yarns with numbers at the limits and between.
func someYarns() []impl.Yarn {
	var yarns []impl.Yarn
	for _, pile := range []int{1, 2, 8, 17, 30} {
		for _, grip := range []int{1, 2, 6, 39, 40} {
			for i, waste := range []int{0, 1, 10, 33, 50, 99, 100} {
				yarns = append(yarns, impl.Yarn{Pile: pile, Grip: grip, Waste: waste, Ball: []int{1, 2, 5, 1000}[(pile+grip+i)%4]})
			}
		}
	}
	return yarns
}

// fewYarns returns one Yarn in nine of them, from the smallest to the greatest.
func fewYarns() []impl.Yarn {
	var yarns []impl.Yarn
	for i, y := range someYarns() {
		if i%9 == 0 {
			yarns = append(yarns, y)
		}
	}
	return append(yarns, yarnOf(30, 40, 100), yarnOf(8, 6, 10))
}

// isYarnByRules tells from the rules of the document whether a Yarn is valid.
func isYarnByRules(y impl.Yarn) bool {
	return y.Pile >= 1 && y.Pile <= 30 && y.Grip >= 1 && y.Grip <= 40 && y.Waste >= 0 && y.Waste <= 100 && y.Ball >= 1 && y.Ball <= 1000
}

// yarnNumbers returns numbers about the limits of the fields of a Yarn, and of int.
func yarnNumbers() []int {
	return append(oddNumbers(), -100, -30, 29, 30, 31, 39, 40, 41, 99, 100, 101, 999, 1000, 1001, 1<<32+8, -1<<32+8)
}

// invalidYarns returns Yarns of which one field, or each, is not valid.
func invalidYarns() []impl.Yarn {
	yarns := []impl.Yarn{{}, {Pile: 8}, {Pile: 8, Grip: 6, Waste: 10}, {Pile: 8, Waste: 10, Ball: 1}, {Grip: 6, Waste: 10, Ball: 1}, {Pile: 31, Grip: 41, Waste: 101, Ball: 1001}}
	for _, n := range yarnNumbers() {
		for _, y := range []impl.Yarn{
			{Pile: n, Grip: 6, Waste: 10, Ball: 5},
			{Pile: 8, Grip: n, Waste: 10, Ball: 5},
			{Pile: 8, Grip: 6, Waste: n, Ball: 5},
			{Pile: 8, Grip: 6, Waste: 10, Ball: n},
			{Pile: n, Grip: n, Waste: n, Ball: n},
		} {
			if !isYarnByRules(y) {
				yarns = append(yarns, y)
			}
		}
	}
	return yarns
}

// isEnough tells whether some millimeters hold the knots and their Waste, a percent of a millimeter at a time.
func isEnough(y impl.Yarn, knots, millimeters int) bool {
	bare := knots * (y.Pile + y.Pile + y.Grip)
	return millimeters*100-bare*100 >= bare*y.Waste
}

// leastFor returns the smallest number of millimeters that is enough, found from below.
func leastFor(y impl.Yarn, knots int) int {
	millimeters := knots * (y.Pile + y.Pile + y.Grip)
	for !isEnough(y, knots, millimeters) {
		millimeters++
	}
	return millimeters
}

// knotsOf counts the knots of a Chart with a color.
func knotsOf(c impl.Chart, color int) int {
	count := 0
	for _, knot := range c.Knots {
		if knot == color {
			count++
		}
	}
	return count
}

// leastByColor returns the smallest number of millimeters of each color that is enough for some carpets.
func leastByColor(c impl.Chart, y impl.Yarn, carpets int) []int {
	var needs []int
	for color := range 6 {
		needs = append(needs, leastFor(y, carpets*knotsOf(c, color)))
	}
	return needs
}

// fullStock returns a stock with as much as there can be of each color.
func fullStock() []int { return slices.Repeat([]int{math.MaxInt}, 6) }

// withAt returns the list with another number at an index.
func withAt(list []int, at, n int) []int {
	changed := slices.Clone(list)
	changed[at] = n
	return changed
}

// invalidStocks returns lists that are no stocks.
func invalidStocks() [][]int {
	stocks := [][]int{nil, {}, {1000}, slices.Repeat([]int{1000}, 5), slices.Repeat([]int{1000}, 7), make([]int, 5), make([]int, 7), make([]int, 5, 6), make([]int, 0, 6), make([]int, 64), slices.Repeat([]int{-1}, 6)}
	for color := range 6 {
		for _, n := range []int{-1, -2, -1000, -1 << 32, math.MinInt + 1, math.MinInt} {
			stocks = append(stocks, withAt(fullStock(), color, n), withAt(make([]int, 6), color, n))
		}
	}
	return stocks
}

func TestYarnConstants(t *testing.T) {
	if impl.MaxPile != 30 {
		t.Error("limit", impl.MaxPile)
	}
}

func TestIsYarn(t *testing.T) {
	for _, c := range []struct {
		y    impl.Yarn
		want bool
	}{
		{impl.Yarn{Pile: 8, Grip: 6, Waste: 10, Ball: 50}, true},
		{impl.Yarn{Pile: 1, Grip: 1, Waste: 0, Ball: 1}, true},
		{impl.Yarn{Pile: 30, Grip: 40, Waste: 100, Ball: 1000}, true},
		{impl.Yarn{Pile: 0, Grip: 1, Waste: 0, Ball: 1}, false},
		{impl.Yarn{Pile: 1, Grip: 0, Waste: 0, Ball: 1}, false},
		{impl.Yarn{Pile: 1, Grip: 1, Waste: -1, Ball: 1}, false},
		{impl.Yarn{Pile: 1, Grip: 1, Waste: 0, Ball: 0}, false},
		{impl.Yarn{Pile: 31, Grip: 40, Waste: 100, Ball: 1000}, false},
		{impl.Yarn{Pile: 30, Grip: 41, Waste: 100, Ball: 1000}, false},
		{impl.Yarn{Pile: 30, Grip: 40, Waste: 101, Ball: 1000}, false},
		{impl.Yarn{Pile: 30, Grip: 40, Waste: 100, Ball: 1001}, false},
		{impl.Yarn{}, false},
	} {
		if impl.IsYarn(c.y) != c.want {
			t.Errorf("IsYarn(%v) = %v", c.y, !c.want)
		}
	}
	numbers := yarnNumbers()
	for _, pile := range numbers {
		for _, grip := range numbers {
			for i, waste := range numbers {
				for _, ball := range []int{0, 1, 1000, 1001, numbers[(i*5+3)%len(numbers)]} {
					y := impl.Yarn{Pile: pile, Grip: grip, Waste: waste, Ball: ball}
					if impl.IsYarn(y) != isYarnByRules(y) {
						t.Fatalf("IsYarn(%v) = %v", y, impl.IsYarn(y))
					}
				}
			}
		}
	}
}

func TestYarnFor(t *testing.T) {
	for _, c := range []struct {
		y           impl.Yarn
		knots, want int
	}{
		{yarnOf(8, 6, 10), 0, 0},
		{yarnOf(8, 6, 10), 1, 25},
		{yarnOf(8, 6, 10), 2, 49},
		{yarnOf(8, 6, 10), 3, 73},
		{yarnOf(8, 6, 10), 5, 121},
		{yarnOf(8, 6, 10), 10, 242},
		{yarnOf(8, 6, 0), 3, 66},
		{yarnOf(8, 6, 100), 3, 132},
		{yarnOf(1, 1, 0), 1, 3},
		{yarnOf(1, 1, 1), 1, 4},
		{yarnOf(1, 1, 33), 1, 4},
		{yarnOf(1, 1, 34), 1, 5},
		{yarnOf(1, 1, 1), 33, 100},
		{yarnOf(1, 1, 1), 34, 104},
		{yarnOf(1, 1, 0), 100000, 300000},
		{yarnOf(30, 40, 100), 1, 200},
		{yarnOf(30, 40, 99), 100000, 19900000},
		{yarnOf(30, 40, 100), 99999, 19999800},
		{yarnOf(30, 40, 100), 100000, 20000000},
	} {
		if n, ok := impl.YarnFor(c.y, c.knots); !ok || n != c.want {
			t.Errorf("YarnFor(%v, %d) = %d, %v, not %d", c.y, c.knots, n, ok, c.want)
		}
	}
	for _, knots := range []int{math.MinInt, -1 << 32, -100000, -3, -1, 100001, 100002, 1 << 32, 1<<32 + 3, 1 << 62, math.MaxInt} {
		for _, y := range fewYarns() {
			if n, ok := impl.YarnFor(y, knots); ok || n != 0 {
				t.Errorf("YarnFor(%v, %d) = %d, %v", y, knots, n, ok)
			}
		}
	}
}

// Promise 10: the yarn that is told is enough for the knots, and for no millimeter less would be.
func TestToldYarnIsEnoughAndNoMillimeterLess(t *testing.T) {
	for _, y := range someYarns() {
		for _, step := range []int{1, 101, 997} {
			for knots := 0; knots <= min(130*step, 100000); knots += step {
				checkToldYarn(t, y, knots)
			}
		}
		checkToldYarn(t, y, 99999)
		checkToldYarn(t, y, 100000)
	}
	// Each Pile, Grip and Waste.
	for pile := 1; pile <= 30; pile++ {
		for grip := 1; grip <= 40; grip++ {
			for waste := range 101 {
				checkToldYarn(t, yarnOf(pile, grip, waste), (pile*7+grip*3+waste)%64+1)
			}
		}
	}
}

// checkToldYarn checks the yarn for some knots against the rules, and, where KnotsFrom takes as much, against the knots from it.
func checkToldYarn(t *testing.T, y impl.Yarn, knots int) {
	t.Helper()
	n, ok := impl.YarnFor(y, knots)
	if !ok || !isEnough(y, knots, n) || isEnough(y, knots, n-1) {
		t.Fatalf("YarnFor(%v, %d) = %d, %v", y, knots, n, ok)
	}
	if n > 100000 {
		return
	}
	if back, ok := impl.KnotsFrom(y, n); !ok || back != knots {
		t.Fatalf("KnotsFrom(%v, %d) = %d, %v, not %d", y, n, back, ok, knots)
	}
	if knots == 0 {
		return
	}
	if back, ok := impl.KnotsFrom(y, n-1); !ok || back != knots-1 {
		t.Fatalf("KnotsFrom(%v, %d) = %d, %v, not one less than %d", y, n-1, back, ok, knots)
	}
}

// Promise 10 for the yarn by color.
func TestToldYarnByColorIsEnough(t *testing.T) {
	for _, c := range evenCharts() {
		for _, y := range fewYarns() {
			needs, ok := impl.YarnByColor(c, y)
			if !ok || len(needs) != 6 {
				t.Fatalf("YarnByColor(%v, %v) = %v, %v", c, y, needs, ok)
			}
			for color, need := range needs {
				if knots := knotsOf(c, color); !isEnough(y, knots, need) || isEnough(y, knots, need-1) {
					t.Fatalf("YarnByColor(%v, %v) = %v, with %d knots of %d", c, y, needs, knots, color)
				}
			}
			if short, ok := impl.ShortColors(c, y, needs); !ok || len(short) != 0 {
				t.Fatalf("ShortColors(%v, %v, %v) = %v, %v", c, y, needs, short, ok)
			}
			if n, ok := impl.CarpetsFrom(c, y, needs); !ok || n != 1 {
				t.Fatalf("CarpetsFrom(%v, %v, %v) = %d, %v", c, y, needs, n, ok)
			}
		}
	}
}

func TestYarnByColor(t *testing.T) {
	for _, c := range []struct {
		c    impl.Chart
		y    impl.Yarn
		want []int
	}{
		{chartOf("aab", "bba"), yarnOf(8, 6, 10), []int{73, 73, 0, 0, 0, 0}},
		{chartOf("a"), yarnOf(8, 6, 10), []int{25, 0, 0, 0, 0, 0}},
		{chartOf("f"), yarnOf(8, 6, 10), []int{0, 0, 0, 0, 0, 25}},
		{chartOf("abcdef"), yarnOf(1, 1, 0), []int{3, 3, 3, 3, 3, 3}},
		{chartOf("fedcba"), yarnOf(1, 1, 1), []int{4, 4, 4, 4, 4, 4}},
		{chartOf("bddd", "eeff", "eeff"), yarnOf(2, 1, 20), []int{0, 6, 0, 18, 24, 24}},
		{chartOf("cccccccc", "cccccccc", "cccccccc", "cccccccc", "cccccccc", "cccccccc", "cccccccc", "cccccccc"), yarnOf(30, 40, 100), []int{0, 0, 12800, 0, 0, 0}},
	} {
		if needs, ok := impl.YarnByColor(c.c, c.y); !ok || !slices.Equal(needs, c.want) {
			t.Errorf("YarnByColor(%v, %v) = %v, %v", c.c, c.y, needs, ok)
		}
	}
	for _, c := range slices.Concat(allSizes(2), smallCharts(2, 2, 4)) {
		for _, y := range fewYarns() {
			if needs, ok := impl.YarnByColor(c, y); !ok || !slices.Equal(needs, leastByColor(c, y, 1)) {
				t.Errorf("YarnByColor(%v, %v) = %v, %v", c, y, needs, ok)
			}
		}
	}
}

func TestBallsByColor(t *testing.T) {
	// The greatest knot takes 100 millimeters, and with all of it as Waste 200.
	for _, c := range []struct {
		knots, waste, ball, want int
	}{
		{1, 0, 1, 1}, {9, 0, 1, 1}, {10, 0, 1, 1}, {11, 0, 1, 2}, {20, 0, 1, 2}, {21, 0, 1, 3}, {64, 0, 1, 7},
		{5, 100, 1, 1}, {6, 100, 1, 2}, {64, 100, 1, 13}, {64, 100, 12, 2}, {64, 100, 13, 1}, {64, 100, 1000, 1},
		{60, 0, 6, 1}, {61, 0, 6, 2}, {10, 1, 1, 2}, {60, 1, 6, 2}, {50, 20, 6, 1}, {49, 23, 6, 2}, {1, 0, 1000, 1},
	} {
		chart, _ := impl.PlainChart(8, 8, 1)
		for i := range 64 - c.knots {
			chart.Knots[i] = 4
		}
		y := impl.Yarn{Pile: 30, Grip: 40, Waste: c.waste, Ball: c.ball}
		balls, ok := impl.BallsByColor(chart, y)
		if !ok || len(balls) != 6 || balls[1] != c.want || balls[0]+balls[2]+balls[3]+balls[5] != 0 || (balls[4] == 0) != (c.knots == 64) {
			t.Errorf("BallsByColor of %d knots with %v = %v, %v", c.knots, y, balls, ok)
		}
	}
	if balls, ok := impl.BallsByColor(chartOf("aab", "bba"), yarnOf(8, 6, 10)); !ok || !slices.Equal(balls, []int{1, 1, 0, 0, 0, 0}) {
		t.Error("balls", balls, ok)
	}
}

// There are enough balls of each color, and with one less there would not be.
func TestBallsAreEnoughAndNotOneLess(t *testing.T) {
	plain, _ := impl.PlainChart(8, 8, 3)
	for _, c := range append(evenCharts(), plain) {
		for _, y := range fewYarns() {
			for _, ball := range []int{1, 2, 3, 7, 999, 1000} {
				y.Ball = ball
				balls, ok := impl.BallsByColor(c, y)
				if !ok || len(balls) != 6 {
					t.Fatalf("BallsByColor(%v, %v) = %v, %v", c, y, balls, ok)
				}
				for color, n := range balls {
					knots := knotsOf(c, color)
					if n < 0 || !isEnough(y, knots, n*ball*1000) || isEnough(y, knots, (n-1)*ball*1000) {
						t.Fatalf("BallsByColor(%v, %v) = %v, with %d knots of %d", c, y, balls, knots, color)
					}
				}
			}
		}
	}
}

func TestKnotsFrom(t *testing.T) {
	for _, c := range []struct {
		y                 impl.Yarn
		millimeters, want int
	}{
		{yarnOf(8, 6, 10), 0, 0},
		{yarnOf(8, 6, 10), 1, 0},
		{yarnOf(8, 6, 10), 24, 0},
		{yarnOf(8, 6, 10), 25, 1},
		{yarnOf(8, 6, 10), 48, 1},
		{yarnOf(8, 6, 10), 49, 2},
		{yarnOf(8, 6, 10), 72, 2},
		{yarnOf(8, 6, 10), 73, 3},
		{yarnOf(8, 6, 10), 120, 4},
		{yarnOf(8, 6, 10), 121, 5},
		{yarnOf(1, 1, 0), 2, 0},
		{yarnOf(1, 1, 0), 3, 1},
		{yarnOf(1, 1, 0), 99999, 33333},
		{yarnOf(1, 1, 0), 100000, 33333},
		{yarnOf(30, 40, 100), 199, 0},
		{yarnOf(30, 40, 100), 200, 1},
		{yarnOf(30, 40, 100), 99999, 499},
		{yarnOf(30, 40, 100), 100000, 500},
	} {
		if n, ok := impl.KnotsFrom(c.y, c.millimeters); !ok || n != c.want {
			t.Errorf("KnotsFrom(%v, %d) = %d, %v, not %d", c.y, c.millimeters, n, ok, c.want)
		}
	}
	for _, millimeters := range []int{math.MinInt, -1 << 32, -100000, -73, -1, 100001, 100002, 1 << 32, 1<<32 + 73, 1 << 62, math.MaxInt} {
		for _, y := range fewYarns() {
			if n, ok := impl.KnotsFrom(y, millimeters); ok || n != 0 {
				t.Errorf("KnotsFrom(%v, %d) = %d, %v", y, millimeters, n, ok)
			}
		}
	}
}

// As the millimeters become more, one knot after the other becomes possible.
func TestKnotsFromEachLength(t *testing.T) {
	for _, y := range fewYarns() {
		knots := 0
		for millimeters := range 100001 {
			for isEnough(y, knots+1, millimeters) {
				knots++
			}
			if n, ok := impl.KnotsFrom(y, millimeters); !ok || n != knots {
				t.Fatalf("KnotsFrom(%v, %d) = %d, %v, not %d", y, millimeters, n, ok, knots)
			}
		}
	}
}

func TestShortColors(t *testing.T) {
	c, y := chartOf("aab", "bba"), yarnOf(8, 6, 10)
	for _, s := range []struct {
		c           impl.Chart
		stock, want []int
	}{
		{c, []int{73, 73, 0, 0, 0, 0}, nil},
		{c, []int{73, 72, 0, 0, 0, 0}, []int{1}},
		{c, []int{72, 73, 0, 0, 0, 0}, []int{0}},
		{c, []int{72, 72, 0, 0, 0, 0}, []int{0, 1}},
		{c, []int{0, 0, 0, 0, 0, 0}, []int{0, 1}},
		{c, []int{0, 0, 1000, 1000, 1000, 1000}, []int{0, 1}},
		{c, []int{math.MaxInt, 0, 0, 0, 0, math.MaxInt}, []int{1}},
		{c, fullStock(), nil},
		{chartOf("fedcba"), []int{25, 24, 25, 0, 1, 24}, []int{1, 3, 4, 5}},
		{chartOf("fedcba"), make([]int, 6), []int{0, 1, 2, 3, 4, 5}},
		{chartOf("fdf"), []int{0, 0, 0, 24, 0, 48}, []int{3, 5}},
		{chartOf("fdf"), []int{0, 0, 0, 25, 0, 49}, nil},
	} {
		if short, ok := impl.ShortColors(s.c, y, s.stock); !ok || !slices.Equal(short, s.want) {
			t.Errorf("ShortColors(%v, %v, %v) = %v, %v", s.c, y, s.stock, short, ok)
		}
	}
}

// Just enough of each color but for some of which there is a millimeter less; of a color without knots there is none that could be missing.
func TestShortColorsByAMillimeter(t *testing.T) {
	for _, c := range slices.Concat(allSizes(3), smallCharts(2, 2, 3)) {
		for _, y := range fewYarns() {
			needs := leastByColor(c, y, 1)
			for chosen := range 64 {
				stock, want := slices.Clone(needs), []int(nil)
				for color := range 6 {
					if chosen>>color&1 == 1 && stock[color] > 0 {
						stock[color]--
						want = append(want, color)
					}
				}
				if short, ok := impl.ShortColors(c, y, stock); !ok || !slices.Equal(short, want) {
					t.Fatalf("ShortColors(%v, %v, %v) = %v, %v", c, y, stock, short, ok)
				}
			}
		}
	}
}

func TestCarpetsFrom(t *testing.T) {
	c, y := chartOf("aab", "bba"), yarnOf(8, 6, 10)
	for _, s := range []struct {
		c     impl.Chart
		stock []int
		want  int
	}{
		{c, []int{146, 146, 0, 0, 0, 0}, 2},
		{c, []int{145, 146, 0, 0, 0, 0}, 1},
		{c, []int{146, 145, 0, 0, 0, 0}, 1},
		{c, []int{73, 1000, 0, 0, 0, 0}, 1},
		{c, []int{1000, 72, 0, 0, 0, 0}, 0},
		{c, []int{0, 0, 1000, 1000, 1000, 1000}, 0},
		{c, make([]int, 6), 0},
		// Ten carpets have 30 knots of each color, with 726 millimeters; ten times 73 would be more.
		{c, []int{726, 726, 0, 0, 0, 0}, 10},
		{c, []int{725, 726, 0, 0, 0, 0}, 9},
		{chartOf("a"), []int{120, 0, 0, 0, 0, 0}, 4},
		{chartOf("a"), []int{121, 0, 0, 0, 0, 0}, 5},
		{chartOf("f"), []int{0, 0, 0, 0, 0, 121}, 5},
		{chartOf("f"), []int{math.MaxInt, 0, 0, 0, 0, 24}, 0},
		// A thousand carpets are the most.
		{chartOf("a"), []int{24175, 0, 0, 0, 0, 0}, 998},
		{chartOf("a"), []int{24176, 0, 0, 0, 0, 0}, 999},
		{chartOf("a"), []int{24199, 0, 0, 0, 0, 0}, 999},
		{chartOf("a"), []int{24200, 0, 0, 0, 0, 0}, 1000},
		{chartOf("a"), []int{24224, 0, 0, 0, 0, 0}, 1000},
		{chartOf("a"), []int{24225, 0, 0, 0, 0, 0}, 1000},
		{chartOf("a"), fullStock(), 1000},
		{c, fullStock(), 1000},
		{mixedChart(8, 8, 1), fullStock(), 1000},
		{chartOf("abcdef"), []int{121, 49, 73, 1000, 242, 49}, 2},
	} {
		if n, ok := impl.CarpetsFrom(s.c, y, s.stock); !ok || n != s.want {
			t.Errorf("CarpetsFrom(%v, %v, %v) = %d, %v, not %d", s.c, y, s.stock, n, ok, s.want)
		}
	}
}

// The greatest number of carpets of 64 knots of one color takes 64000 knots.
func TestMostCarpetsOfTheGreatestChart(t *testing.T) {
	for color := range 6 {
		c, _ := impl.PlainChart(8, 8, color)
		for _, y := range fewYarns() {
			need := leastFor(y, 64000)
			for _, s := range []struct{ millimeters, want int }{{need, 1000}, {need - 1, 999}, {need + 1, 1000}, {2 * need, 1000}, {math.MaxInt, 1000}} {
				if n, ok := impl.CarpetsFrom(c, y, withAt(make([]int, 6), color, s.millimeters)); !ok || n != s.want {
					t.Errorf("CarpetsFrom(%v, %v, %d millimeters) = %d, %v, not %d", c, y, s.millimeters, n, ok, s.want)
				}
			}
		}
	}
}

// A stock with just enough for some carpets is enough for them, and with a millimeter less of any color with knots it is not.
func TestCarpetsFromJustEnough(t *testing.T) {
	for i, c := range slices.Concat(allSizes(5), smallCharts(2, 1, 6), smallCharts(3, 1, 3)) {
		for _, y := range fewYarns() {
			for _, carpets := range []int{0, 1, 2, 3, i%97 + 4, 999, 1000} {
				needs := leastByColor(c, y, carpets)
				if n, ok := impl.CarpetsFrom(c, y, needs); !ok || n != carpets {
					t.Fatalf("CarpetsFrom(%v, %v, %v) = %d, %v, not %d", c, y, needs, n, ok, carpets)
				}
				for color := range 6 {
					if needs[color] == 0 {
						continue
					}
					stock := withAt(fullStock(), color, needs[color]-1)
					if n, ok := impl.CarpetsFrom(c, y, stock); !ok || n != carpets-1 {
						t.Fatalf("CarpetsFrom(%v, %v, %v) = %d, %v, not %d", c, y, stock, n, ok, carpets-1)
					}
				}
			}
		}
	}
}

// Nothing is ever short, and no carpet is missing, for want of a color without knots.
func TestColorWithoutKnots(t *testing.T) {
	for color := range 6 {
		var others []string
		for other := range 6 {
			if other != color {
				others = append(others, letterOf(other)+letterOf(other))
			}
		}
		c := chartOf(others...)
		for _, y := range fewYarns() {
			needs, okNeeds := impl.YarnByColor(c, y)
			balls, okBalls := impl.BallsByColor(c, y)
			if !okNeeds || !okBalls || len(needs) != 6 || len(balls) != 6 || needs[color] != 0 || balls[color] != 0 {
				t.Errorf("%v needs %v, %v or the balls %v, %v of %v", c, needs, okNeeds, balls, okBalls, y)
			}
			stock := withAt(fullStock(), color, 0)
			if short, ok := impl.ShortColors(c, y, stock); !ok || len(short) != 0 {
				t.Errorf("ShortColors(%v, %v, %v) = %v, %v", c, y, stock, short, ok)
			}
			if n, ok := impl.CarpetsFrom(c, y, stock); !ok || n != 1000 {
				t.Errorf("CarpetsFrom(%v, %v, %v) = %d, %v", c, y, stock, n, ok)
			}
			nothing := withAt(make([]int, 6), color, math.MaxInt)
			if n, ok := impl.CarpetsFrom(c, y, nothing); !ok || n != 0 {
				t.Errorf("CarpetsFrom(%v, %v, %v) = %d, %v", c, y, nothing, n, ok)
			}
		}
		if num, den, ok := impl.ColorShare(c, color); !ok || num != 0 || den != 1 {
			t.Errorf("ColorShare(%v, %d) = %d, %d, %v", c, color, num, den, ok)
		}
		want := 0
		if color == 0 {
			want = 1
		}
		if hungriest, ok := impl.HungriestColor(c); !ok || hungriest != want {
			t.Errorf("HungriestColor(%v) = %d, %v", c, hungriest, ok)
		}
	}
}

func TestHungriestColor(t *testing.T) {
	for _, c := range []struct {
		c    impl.Chart
		want int
	}{
		{chartOf("a"), 0},
		{chartOf("f"), 5},
		{chartOf("aab", "bba"), 0},
		{chartOf("bba", "aab"), 0},
		{chartOf("aab", "bbb"), 1},
		{chartOf("fedcba"), 0},
		{chartOf("fedcb"), 1},
		{chartOf("fedcbf"), 5},
		{chartOf("ff", "ee", "cc"), 2},
		{chartOf("ffa", "eea"), 0},
		{chartOf("fffe", "eeda"), 4},
		{chartOf("abbccc", "dddeee"), 2},
	} {
		if color, ok := impl.HungriestColor(c.c); !ok || color != c.want {
			t.Errorf("HungriestColor(%v) = %d, %v", c.c, color, ok)
		}
	}
	for _, c := range slices.Concat(evenCharts(), smallCharts(4, 1, 6), smallCharts(3, 2, 3)) {
		want := 0
		for color := range 6 {
			if knotsOf(c, color) > knotsOf(c, want) {
				want = color
			}
		}
		if color, ok := impl.HungriestColor(c); !ok || color != want {
			t.Errorf("HungriestColor(%v) = %d, %v, not %d", c, color, ok, want)
		}
	}
}

func TestColorShare(t *testing.T) {
	for _, c := range []struct {
		c               impl.Chart
		color, num, den int
	}{
		{chartOf("a"), 0, 1, 1},
		{chartOf("a"), 1, 0, 1},
		{chartOf("a"), 5, 0, 1},
		{chartOf("aab", "bba"), 0, 1, 2},
		{chartOf("aab", "bba"), 1, 1, 2},
		{chartOf("aab", "bba"), 5, 0, 1},
		{chartOf("abb"), 0, 1, 3},
		{chartOf("abb"), 1, 2, 3},
		{chartOf("abb", "bbb"), 1, 5, 6},
		{chartOf("aabb", "bbbb"), 0, 1, 4},
		{chartOf("aabb", "bbbb"), 1, 3, 4},
		{chartOf("ffffff", "ffffff", "fffaaa"), 5, 5, 6},
	} {
		if num, den, ok := impl.ColorShare(c.c, c.color); !ok || num != c.num || den != c.den {
			t.Errorf("ColorShare(%v, %d) = %d, %d, %v", c.c, c.color, num, den, ok)
		}
	}
	for _, color := range oddNumbers() {
		num, den, ok := impl.ColorShare(chartOf("abcdef", "abcdef"), color)
		if valid := color >= 0 && color <= 5; ok != valid || valid && (num != 1 || den != 6) || !valid && (num != 0 || den != 0) {
			t.Errorf("ColorShare(.., %d) = %d, %d, %v", color, num, den, ok)
		}
	}
}

// Each number of knots of a color in Charts of all sizes: the fraction is the share, and nothing but 1 divides both of its numbers.
func TestColorShareInLowestTerms(t *testing.T) {
	for _, size := range allSizes(1) {
		c, _ := impl.PlainChart(size.Width, size.Height, 2)
		for count := range len(c.Knots) + 1 {
			num, den, ok := impl.ColorShare(c, 4)
			if !ok || den < 1 || num*len(c.Knots) != count*den {
				t.Fatalf("ColorShare(%v, 4) = %d, %d, %v", c, num, den, ok)
			}
			for divisor := 2; divisor <= den; divisor++ {
				if num%divisor == 0 && den%divisor == 0 {
					t.Fatalf("ColorShare(%v, 4) = %d, %d, %v", c, num, den, ok)
				}
			}
			if count < len(c.Knots) {
				c.Knots[count] = 4
			}
		}
	}
}

// checkYarnRefused calls each function that takes a Chart and a Yarn, of which one is not valid, and checks that all fail.
func checkYarnRefused(t *testing.T, c impl.Chart, y impl.Yarn) {
	t.Helper()
	needs, okNeeds := impl.YarnByColor(c, y)
	balls, okBalls := impl.BallsByColor(c, y)
	if okNeeds || okBalls || len(needs)+len(balls) != 0 {
		t.Errorf("%v needs %v, %v or the balls %v, %v of %v", c, needs, okNeeds, balls, okBalls, y)
	}
	for _, stock := range append(invalidStocks(), make([]int, 6), fullStock()) {
		if short, ok := impl.ShortColors(c, y, stock); ok || len(short) != 0 {
			t.Errorf("ShortColors(%v, %v, %v) = %v, %v", c, y, stock, short, ok)
		}
		if n, ok := impl.CarpetsFrom(c, y, stock); ok || n != 0 {
			t.Errorf("CarpetsFrom(%v, %v, %v) = %d, %v", c, y, stock, n, ok)
		}
	}
}

func TestYarnFunctionsRefuseInvalidCharts(t *testing.T) {
	bad := invalidCharts()
	for _, c := range allSizes(4) {
		for i := range c.Knots {
			bad = append(bad, impl.Chart{Width: c.Width, Height: c.Height, Knots: withAt(c.Knots, i, 6-i%2*7)})
		}
	}
	for _, c := range bad {
		checkYarnRefused(t, c, yarnOf(8, 6, 10))
		checkYarnRefused(t, c, impl.Yarn{})
		if color, ok := impl.HungriestColor(c); ok || color != 0 {
			t.Errorf("HungriestColor(%v) = %d, %v", c, color, ok)
		}
		for _, color := range oddNumbers() {
			if num, den, ok := impl.ColorShare(c, color); ok || num != 0 || den != 0 {
				t.Errorf("ColorShare(%v, %d) = %d, %d, %v", c, color, num, den, ok)
			}
		}
	}
}

func TestYarnFunctionsRefuseInvalidYarns(t *testing.T) {
	for _, y := range invalidYarns() {
		for _, c := range []impl.Chart{chartOf("a"), chartOf("aab", "bba"), mixedChart(8, 8, 2)} {
			checkYarnRefused(t, c, y)
		}
		for _, n := range []int{math.MinInt, -1, 0, 1, 3, 73, 1000, 100000, 100001, math.MaxInt} {
			if told, ok := impl.YarnFor(y, n); ok || told != 0 {
				t.Errorf("YarnFor(%v, %d) = %d, %v", y, n, told, ok)
			}
			if knots, ok := impl.KnotsFrom(y, n); ok || knots != 0 {
				t.Errorf("KnotsFrom(%v, %d) = %d, %v", y, n, knots, ok)
			}
		}
	}
}

func TestYarnFunctionsRefuseInvalidStocks(t *testing.T) {
	for _, stock := range invalidStocks() {
		for _, c := range []impl.Chart{chartOf("a"), chartOf("aab", "bba"), chartOf("abcdef"), mixedChart(8, 8, 2)} {
			for _, y := range fewYarns() {
				if short, ok := impl.ShortColors(c, y, stock); ok || len(short) != 0 {
					t.Errorf("ShortColors(%v, %v, %v) = %v, %v", c, y, stock, short, ok)
				}
				if n, ok := impl.CarpetsFrom(c, y, stock); ok || n != 0 {
					t.Errorf("CarpetsFrom(%v, %v, %v) = %d, %v", c, y, stock, n, ok)
				}
			}
		}
	}
}

// yarnResults calls each function that returns a list, and returns all lists.
func yarnResults(c impl.Chart, y impl.Yarn, stock []int) [][]int {
	needs, _ := impl.YarnByColor(c, y)
	balls, _ := impl.BallsByColor(c, y)
	short, _ := impl.ShortColors(c, y, stock)
	return [][]int{needs, balls, short}
}

// yarnAnswers calls each function of the chapter, and returns all that they return as text.
func yarnAnswers(c impl.Chart, y impl.Yarn, stock []int, n int) string {
	told, okTold := impl.YarnFor(y, n)
	knots, okKnots := impl.KnotsFrom(y, n)
	carpets, okCarpets := impl.CarpetsFrom(c, y, stock)
	hungriest, okHungriest := impl.HungriestColor(c)
	num, den, okShare := impl.ColorShare(c, n)
	return fmt.Sprint(impl.IsYarn(y), told, okTold, knots, okKnots, carpets, okCarpets, hungriest, okHungriest, num, den, okShare, yarnResults(c, y, stock))
}

func TestYarnFunctionsChangeNoArgument(t *testing.T) {
	for seed, c := range evenCharts() {
		for i, y := range fewYarns() {
			// What lies beyond the length of a slice stays as it is, too, and counts for nothing.
			knots := append(slices.Clone(c.Knots), 1, 77, 78)
			stock := append(leastByColor(c, y, seed%3), -1, 87, 88)
			givenKnots, givenStock := slices.Clone(knots), slices.Clone(stock)
			chart := impl.Chart{Width: c.Width, Height: c.Height, Knots: knots[:len(c.Knots)]}
			text, plain := yarnAnswers(chart, y, stock[:6], i), yarnAnswers(cloneChart(c), y, slices.Clone(stock[:6]), i)
			if text != plain {
				t.Fatalf("for %v, %v and %v there is %s, not %s", c, y, stock[:6], text, plain)
			}
			if !slices.Equal(knots, givenKnots) || !slices.Equal(stock, givenStock) {
				t.Fatalf("%v and %v have become %v and %v", givenKnots, givenStock, knots, stock)
			}
		}
	}
}

// Whatever is written to one result, over all of its memory, neither another one nor an argument changes.
func TestYarnResultsAreSeparate(t *testing.T) {
	for _, c := range evenCharts() {
		for _, y := range fewYarns() {
			given, stock := cloneChart(c), make([]int, 6)
			checkSeparate(t, append(yarnResults(c, y, stock), yarnResults(c, y, stock)...), -1)
			if !sameChart(c, given) || !slices.Equal(stock, make([]int, 6)) {
				t.Fatalf("%v has become %v, or the stock %v", given, c, stock)
			}
		}
	}
}

// Each function returns for odd numbers, Charts, Yarns and stocks, and the same at each call.
func TestYarnFunctionsAreTotal(t *testing.T) {
	charts := append(invalidCharts(), chartOf("a"), chartOf("ab", "cd"), mixedChart(8, 8, 3))
	yarns := append(invalidYarns(), yarnOf(1, 1, 0), yarnOf(8, 6, 10), yarnOf(30, 40, 100))
	stocks := append(invalidStocks(), make([]int, 6), fullStock(), []int{0, 1, 73, 1000, 1 << 62, math.MaxInt})
	for i, c := range charts {
		for j, y := range yarns {
			for k, n := range append(oddNumbers(), 99999, 100000, 100001) {
				stock := stocks[(i+j*3+k*7)%len(stocks)]
				if first, second := yarnAnswers(c, y, stock, n), yarnAnswers(c, y, stock, n); first != second {
					t.Errorf("for %v, %v, %v and %d there is %s, and then %s", c, y, stock, n, first, second)
				}
			}
		}
	}
}

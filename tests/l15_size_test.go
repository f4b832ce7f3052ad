package tests

import (
	"fmt"
	"math"
	"math/big"
	"slices"
	"testing"

	"loop.example/g01023/impl"
)

// gaugeOf returns a Gauge with its numbers in their order.
func gaugeOf(across, down, edge int) impl.Gauge {
	return impl.Gauge{Across: across, Down: down, Edge: edge}
}

// measureOf returns a Measure with its numbers in their order.
func measureOf(top, bottom, left, right int) impl.Measure {
	return impl.Measure{Top: top, Bottom: bottom, Left: left, Right: right}
}

// someGauges returns Gauges with numbers at the limits and between, some of which do not divide 100 millimeters.
func someGauges() []impl.Gauge {
	var gauges []impl.Gauge
	numbers := []int{1, 2, 3, 7, 25, 40, 50, 99, 100, 101, 150, 199, 200}
	for i, across := range numbers {
		for j, down := range numbers {
			gauges = append(gauges, gaugeOf(across, down, []int{0, 1, 5, 99, 200}[(i*3+j)%5]))
		}
	}
	next := dyeNumbers(15)
	for range 60 {
		gauges = append(gauges, gaugeOf(next(200)+1, next(200)+1, next(201)))
	}
	return gauges
}

// someMeasures returns Measures with numbers at the limits and between, and ones near to some size.
func someMeasures(width, length int) []impl.Measure {
	measures := []impl.Measure{measureOf(1, 1, 1, 1), measureOf(20000, 20000, 20000, 20000), measureOf(1, 20000, 20000, 1), measureOf(20000, 1, 1, 1), measureOf(1, 1, 1, 20000), measureOf(18, 17, 14, 14)}
	next := dyeNumbers(width + length*7)
	for range 12 {
		measures = append(measures, measureOf(next(20000)+1, next(20000)+1, next(20000)+1, next(20000)+1))
		near := func(n int) int { return min(max(n+next(9)-4, 1), 20000) }
		measures = append(measures, measureOf(near(width), near(width), near(length), near(length)))
	}
	return measures
}

// isGaugeByRules tells from the rules of the document whether a Gauge is valid.
func isGaugeByRules(g impl.Gauge) bool {
	return g.Across >= 1 && g.Across <= 200 && g.Down >= 1 && g.Down <= 200 && g.Edge >= 0 && g.Edge <= 200
}

// isMeasureByRules tells from the rules of the document whether a Measure is valid.
func isMeasureByRules(m impl.Measure) bool {
	list := []int{m.Top, m.Bottom, m.Left, m.Right}
	return slices.Min(list) >= 1 && slices.Max(list) <= 20000
}

// sizeNumbers returns numbers about the limits of Gauges and Measures, and of int.
func sizeNumbers() []int {
	return append(oddNumbers(), -20000, -200, -100, 40, 99, 100, 101, 199, 200, 201, 400, 19999, 20000, 20001, 1<<32+40, -1<<32+40)
}

// invalidGauges returns Gauges of which one number, or each, is not valid.
func invalidGauges() []impl.Gauge {
	gauges := []impl.Gauge{{}, {Across: 40}, {Down: 50}, {Edge: 5}, gaugeOf(0, 50, 5), gaugeOf(40, 0, 5), gaugeOf(40, 50, -1), gaugeOf(201, 50, 5), gaugeOf(40, 201, 5), gaugeOf(40, 50, 201)}
	for _, n := range sizeNumbers() {
		for _, g := range []impl.Gauge{gaugeOf(n, 50, 5), gaugeOf(40, n, 5), gaugeOf(40, 50, n), gaugeOf(n, n, n)} {
			if !isGaugeByRules(g) {
				gauges = append(gauges, g)
			}
		}
	}
	return gauges
}

// invalidMeasures returns Measures of which one number, or each, is not valid.
func invalidMeasures() []impl.Measure {
	measures := []impl.Measure{{}, {Top: 1, Bottom: 1, Left: 1}, {Bottom: 1, Left: 1, Right: 1}, {Top: 1, Bottom: 1}}
	for _, n := range sizeNumbers() {
		for _, m := range []impl.Measure{measureOf(n, 17, 14, 14), measureOf(18, n, 14, 14), measureOf(18, 17, n, 14), measureOf(18, 17, 14, n), measureOf(n, n, n, n), measureOf(n, n, 14, 14), measureOf(18, 17, n, n)} {
			if !isMeasureByRules(m) {
				measures = append(measures, m)
			}
		}
	}
	return measures
}

// exactSize returns the millimeters of some knots, so many of which are on 100 millimeters, between two edges.
func exactSize(knots, per, edge int) *big.Rat {
	size := new(big.Rat)
	for range knots {
		size.Add(size, big.NewRat(100, int64(per)))
	}
	for range 2 {
		size.Add(size, big.NewRat(int64(edge), 1))
	}
	return size
}

// isFraction tells whether num and den are a number in lowest terms, with den positive.
func isFraction(num, den int, want *big.Rat) bool {
	return want.Num().Cmp(big.NewInt(int64(num))) == 0 && want.Denom().Cmp(big.NewInt(int64(den))) == 0
}

// wholeBelow returns the greatest whole number that is at most a number.
func wholeBelow(x *big.Rat) int {
	whole, _ := x.Float64()
	n := int(whole) + 2
	for big.NewRat(int64(n), 1).Cmp(x) > 0 {
		n--
	}
	return n
}

// plainOf returns a Chart with a size.
func plainOf(width, height int) impl.Chart {
	c, _ := impl.PlainChart(width, height, (width+height)%6)
	return c
}

func TestIsGauge(t *testing.T) {
	for _, g := range append(someGauges(), gaugeOf(1, 1, 0), gaugeOf(200, 200, 200), gaugeOf(1, 200, 0), gaugeOf(200, 1, 200)) {
		if !impl.IsGauge(g) {
			t.Errorf("%v is no Gauge", g)
		}
	}
	for _, g := range invalidGauges() {
		if impl.IsGauge(g) {
			t.Errorf("%v is a Gauge", g)
		}
	}
	for _, across := range sizeNumbers() {
		for _, down := range sizeNumbers() {
			for _, edge := range sizeNumbers() {
				g := gaugeOf(across, down, edge)
				if impl.IsGauge(g) != isGaugeByRules(g) {
					t.Fatalf("IsGauge(%v) = %v", g, impl.IsGauge(g))
				}
			}
		}
	}
}

func TestIsMeasure(t *testing.T) {
	for _, m := range append(someMeasures(50, 60), measureOf(1, 1, 1, 1), measureOf(20000, 20000, 20000, 20000)) {
		if !impl.IsMeasure(m) {
			t.Errorf("%v is no Measure", m)
		}
	}
	for _, m := range invalidMeasures() {
		if impl.IsMeasure(m) {
			t.Errorf("%v is a Measure", m)
		}
	}
	edges := []int{0, 1, 20000, 20001}
	for way := range 256 {
		m := measureOf(edges[way&3], edges[way>>2&3], edges[way>>4&3], edges[way>>6])
		if impl.IsMeasure(m) != isMeasureByRules(m) {
			t.Errorf("IsMeasure(%v) = %v", m, impl.IsMeasure(m))
		}
	}
}

func TestSizeOf(t *testing.T) {
	for _, c := range []struct {
		c    impl.Chart
		g    impl.Gauge
		want [4]int
	}{
		{chartOf("aab", "bba"), gaugeOf(40, 50, 5), [4]int{35, 2, 14, 1}},
		{chartOf("aab", "bba"), gaugeOf(50, 40, 5), [4]int{16, 1, 15, 1}},
		{chartOf("aab", "bba"), gaugeOf(40, 50, 0), [4]int{15, 2, 4, 1}},
		{chartOf("a"), gaugeOf(1, 1, 0), [4]int{100, 1, 100, 1}},
		{chartOf("a"), gaugeOf(1, 1, 200), [4]int{500, 1, 500, 1}},
		{chartOf("a"), gaugeOf(200, 200, 0), [4]int{1, 2, 1, 2}},
		{chartOf("a"), gaugeOf(200, 199, 200), [4]int{801, 2, 79700, 199}},
		{chartOf("a"), gaugeOf(3, 7, 0), [4]int{100, 3, 100, 7}},
		{chartOf("abc"), gaugeOf(3, 7, 0), [4]int{100, 1, 100, 7}},
		{chartOf("abc"), gaugeOf(9, 100, 1), [4]int{106, 3, 3, 1}},
		{chartOf("a", "b", "c", "d", "e", "f", "a"), gaugeOf(150, 7, 0), [4]int{2, 3, 100, 1}},
		{plainOf(8, 8), gaugeOf(1, 1, 200), [4]int{1200, 1, 1200, 1}},
		{plainOf(8, 1), gaugeOf(200, 1, 0), [4]int{4, 1, 100, 1}},
		{plainOf(1, 8), gaugeOf(200, 199, 1), [4]int{5, 2, 1198, 199}},
	} {
		a, b, p, q, ok := impl.SizeOf(c.c, c.g)
		if !ok || [4]int{a, b, p, q} != c.want {
			t.Errorf("SizeOf(%v, %v) = %d, %d, %d, %d, %v", c.c, c.g, a, b, p, q, ok)
		}
	}
}

func TestSizesAreExact(t *testing.T) {
	for _, g := range someGauges() {
		for _, c := range allSizes(2) {
			width, length := exactSize(c.Width, g.Across, g.Edge), exactSize(c.Height, g.Down, g.Edge)
			a, b, p, q, ok := impl.SizeOf(c, g)
			if !ok || !isFraction(a, b, width) || !isFraction(p, q, length) {
				t.Fatalf("SizeOf(%v, %v) = %d, %d, %d, %d, %v, not %v and %v", c, g, a, b, p, q, ok, width, length)
			}
			aspect := new(big.Rat).Quo(width, length)
			if num, den, ok := impl.AspectOf(c, g); !ok || !isFraction(num, den, aspect) {
				t.Fatalf("AspectOf(%v, %v) = %d, %d, %v, not %v", c, g, num, den, ok, aspect)
			}
		}
	}
	// Each number of knots on 100 millimeters.
	for across := 1; across <= 200; across++ {
		c, g := plainOf(across%8+1, across/8%8+1), gaugeOf(across, 201-across, across%3*100)
		a, b, p, q, ok := impl.SizeOf(c, g)
		if !ok || !isFraction(a, b, exactSize(c.Width, g.Across, g.Edge)) || !isFraction(p, q, exactSize(c.Height, g.Down, g.Edge)) {
			t.Errorf("SizeOf(%v, %v) = %d, %d, %d, %d, %v", c, g, a, b, p, q, ok)
		}
	}
}

func TestKnotsPerArea(t *testing.T) {
	for _, c := range []struct {
		g    impl.Gauge
		want int
	}{
		{gaugeOf(40, 50, 5), 2000}, {gaugeOf(1, 1, 0), 1}, {gaugeOf(1, 1, 200), 1}, {gaugeOf(200, 200, 200), 40000}, {gaugeOf(200, 1, 0), 200}, {gaugeOf(1, 199, 0), 199}, {gaugeOf(100, 100, 0), 10000}, {gaugeOf(7, 13, 1), 91},
	} {
		if knots, ok := impl.KnotsPerArea(c.g); !ok || knots != c.want {
			t.Errorf("KnotsPerArea(%v) = %d, %v, not %d", c.g, knots, ok, c.want)
		}
	}
	for _, g := range someGauges() {
		want := 0
		for range g.Across {
			want += g.Down
		}
		if knots, ok := impl.KnotsPerArea(g); !ok || knots != want {
			t.Errorf("KnotsPerArea(%v) = %d, %v, not %d", g, knots, ok, want)
		}
	}
}

func TestAspectOf(t *testing.T) {
	for _, c := range []struct {
		c        impl.Chart
		g        impl.Gauge
		num, den int
	}{
		{chartOf("aab", "bba"), gaugeOf(40, 50, 5), 5, 4}, {chartOf("aab", "bba"), gaugeOf(40, 50, 0), 15, 8}, {chartOf("a"), gaugeOf(1, 1, 0), 1, 1}, {chartOf("a"), gaugeOf(200, 200, 200), 1, 1},
		{chartOf("a"), gaugeOf(200, 1, 0), 1, 200}, {chartOf("a"), gaugeOf(1, 200, 0), 200, 1}, {plainOf(8, 1), gaugeOf(1, 200, 0), 1600, 1}, {plainOf(1, 8), gaugeOf(200, 1, 0), 1, 1600}, {plainOf(8, 8), gaugeOf(30, 30, 7), 1, 1},
		{plainOf(2, 1), gaugeOf(100, 100, 0), 2, 1}, {plainOf(2, 1), gaugeOf(100, 100, 1), 4, 3}, {plainOf(2, 3), gaugeOf(2, 3, 33), 1, 1}, {chartOf("a"), gaugeOf(3, 7, 0), 7, 3}, {chartOf("a"), gaugeOf(200, 199, 200), 159399, 159400},
	} {
		if num, den, ok := impl.AspectOf(c.c, c.g); !ok || num != c.num || den != c.den {
			t.Errorf("AspectOf(%v, %v) = %d, %d, %v", c.c, c.g, num, den, ok)
		}
	}
}

func TestKnotsForSize(t *testing.T) {
	for _, c := range []struct {
		g                           impl.Gauge
		width, length, across, down int
	}{
		{gaugeOf(40, 50, 5), 100, 100, 36, 45},
		// Knots and edges that fit exactly, and a millimeter less or more.
		{gaugeOf(40, 50, 5), 15, 12, 2, 1}, {gaugeOf(40, 50, 5), 14, 12, 1, 1}, {gaugeOf(40, 50, 5), 16, 13, 2, 1}, {gaugeOf(40, 50, 5), 17, 14, 2, 2}, {gaugeOf(40, 50, 5), 18, 15, 3, 2},
		{gaugeOf(1, 1, 0), 100, 100, 1, 1}, {gaugeOf(1, 1, 0), 199, 200, 1, 2}, {gaugeOf(1, 1, 0), 201, 199, 2, 1}, {gaugeOf(1, 1, 200), 500, 599, 1, 1}, {gaugeOf(1, 1, 200), 600, 500, 2, 1},
		{gaugeOf(100, 100, 0), 1, 20000, 1, 20000}, {gaugeOf(100, 100, 1), 3, 20000, 1, 19998}, {gaugeOf(3, 7, 0), 100, 100, 3, 7}, {gaugeOf(3, 7, 0), 99, 99, 2, 6}, {gaugeOf(3, 7, 0), 34, 15, 1, 1},
		{gaugeOf(200, 200, 0), 1, 1, 2, 2}, {gaugeOf(199, 199, 0), 1, 100, 1, 199}, {gaugeOf(150, 150, 0), 1, 2, 1, 3}, {gaugeOf(200, 200, 200), 401, 402, 2, 4},
		// More knots than the sides of a Chart have.
		{gaugeOf(200, 200, 0), 20000, 20000, 40000, 40000}, {gaugeOf(200, 1, 200), 20000, 20000, 39200, 196}, {gaugeOf(1, 200, 0), 20000, 19999, 200, 39998},
		// There are none: across, down, or both.
		{gaugeOf(40, 50, 5), 9, 100, 0, 0}, {gaugeOf(40, 50, 5), 10, 100, 0, 0}, {gaugeOf(40, 50, 5), 12, 100, 0, 0}, {gaugeOf(40, 50, 5), 100, 9, 0, 0}, {gaugeOf(40, 50, 5), 100, 10, 0, 0}, {gaugeOf(40, 50, 5), 100, 11, 0, 0},
		{gaugeOf(1, 1, 0), 99, 100, 0, 0}, {gaugeOf(1, 1, 0), 100, 99, 0, 0}, {gaugeOf(1, 1, 0), 1, 20000, 0, 0}, {gaugeOf(1, 1, 0), 20000, 1, 0, 0}, {gaugeOf(1, 1, 0), 1, 1, 0, 0},
		{gaugeOf(200, 200, 200), 400, 20000, 0, 0}, {gaugeOf(200, 200, 200), 20000, 400, 0, 0}, {gaugeOf(200, 200, 200), 1, 1, 0, 0}, {gaugeOf(200, 200, 200), 399, 401, 0, 0}, {gaugeOf(1, 1, 200), 499, 500, 0, 0}, {gaugeOf(99, 99, 0), 1, 100, 0, 0},
	} {
		across, down, ok := impl.KnotsForSize(c.g, c.width, c.length)
		if ok != (c.across > 0) || across != c.across || down != c.down {
			t.Errorf("KnotsForSize(%v, %d, %d) = %d, %d, %v, not %d, %d", c.g, c.width, c.length, across, down, ok, c.across, c.down)
		}
	}
}

func TestKnotsForSizeNeedsAWidthAndALength(t *testing.T) {
	for _, g := range []impl.Gauge{gaugeOf(200, 200, 0), gaugeOf(40, 50, 5), gaugeOf(1, 1, 200)} {
		for _, width := range sizeNumbers() {
			for _, length := range sizeNumbers() {
				valid := min(width, length) >= 1 && max(width, length) <= 20000 && fits(1, g.Across, g.Edge, width) && fits(1, g.Down, g.Edge, length)
				across, down, ok := impl.KnotsForSize(g, width, length)
				if ok != valid || ok && min(across, down) < 1 || !ok && (across != 0 || down != 0) {
					t.Errorf("KnotsForSize(%v, %d, %d) = %d, %d, %v", g, width, length, across, down, ok)
				}
			}
		}
	}
}

// fits tells whether some knots and two edges are at most so many millimeters, without a division.
func fits(knots, per, edge, millimeters int) bool {
	return 100*knots+edge*per+edge*per <= millimeters*per
}

// Promise 15: with the knots that are told a carpet is not too wide, and one knot more across would be too wide; the same down.
func TestOneKnotMoreWouldBeTooWide(t *testing.T) {
	for per := 1; per <= 200; per++ {
		for _, edge := range []int{0, 1, per, 200} {
			g := gaugeOf(per, 201-per, edge)
			for width := 1; width <= 20000; width += 1 + width/100 + per%3 {
				length := 20001 - width
				across, down, ok := impl.KnotsForSize(g, width, length)
				if !ok {
					if across != 0 || down != 0 || fits(1, g.Across, edge, width) && fits(1, g.Down, edge, length) {
						t.Fatalf("KnotsForSize(%v, %d, %d) = %d, %d, %v", g, width, length, across, down, ok)
					}
					continue
				}
				if across < 1 || !fits(across, g.Across, edge, width) || fits(across+1, g.Across, edge, width) {
					t.Fatalf("KnotsForSize(%v, %d, %d) = %d, %d: not the most across", g, width, length, across, down)
				}
				if down < 1 || !fits(down, g.Down, edge, length) || fits(down+1, g.Down, edge, length) {
					t.Fatalf("KnotsForSize(%v, %d, %d) = %d, %d: not the most down", g, width, length, across, down)
				}
			}
		}
	}
}

// Promise 15 for each width and length, against a walk upwards.
func TestKnotsForSizeByWalk(t *testing.T) {
	for i, g := range someGauges() {
		if i%8 != 0 {
			continue
		}
		across, down := 0, 0
		for size := 1; size <= 20000; size++ {
			for fits(across+1, g.Across, g.Edge, size) {
				across++
			}
			for fits(down+1, g.Down, g.Edge, size) {
				down++
			}
			toldAcross, toldDown, ok := impl.KnotsForSize(g, size, size)
			if valid := across > 0 && down > 0; ok != valid || valid && (toldAcross != across || toldDown != down) || !valid && (toldAcross != 0 || toldDown != 0) {
				t.Fatalf("KnotsForSize(%v, %d, %d) = %d, %d, %v, not %d, %d", g, size, size, toldAcross, toldDown, ok, across, down)
			}
		}
	}
}

// Promise 15 with SizeOf: the size of a Chart, rounded up to whole millimeters, holds its knots, and a carpet with a knot more across than it holds is wider.
func TestKnotsForTheSizeOfACarpet(t *testing.T) {
	exact := 0
	for _, g := range someGauges() {
		for _, c := range allSizes(6) {
			a, b, p, q, _ := impl.SizeOf(c, g)
			width, length := (a+b-1)/b, (p+q-1)/q
			across, down, ok := impl.KnotsForSize(g, width, length)
			if !ok || across < c.Width || down < c.Height {
				t.Fatalf("for %v and %v, %d by %d millimeters hold %d by %d knots, %v", c, g, width, length, across, down, ok)
			}
			if more, den, _, _, fine := impl.SizeOf(plainOf(min(across, 7)+1, 1), g); fine && across < 8 && more <= width*den {
				t.Fatalf("for %v and %v, %d by %d millimeters hold more than %d knots across", c, g, width, length, across)
			}
			if b > 1 || q > 1 || max(g.Across, g.Down) > 100 {
				continue
			}
			// A size that fits exactly, where a knot is at least a millimeter: of one less, there is a knot less.
			exact++
			if across != c.Width || down != c.Height {
				t.Fatalf("for %v and %v, %d by %d millimeters hold %d by %d knots", c, g, width, length, across, down)
			}
			fewer, same, ok := impl.KnotsForSize(g, width-1, length)
			if valid := c.Width > 1; ok != valid || valid && (fewer != c.Width-1 || same != c.Height) || !valid && (fewer != 0 || same != 0) {
				t.Fatalf("for %v and %v, %d by %d millimeters hold %d by %d knots, %v", c, g, width-1, length, fewer, same, ok)
			}
		}
	}
	if exact < 500 {
		t.Errorf("%d sizes fit exactly", exact)
	}
}

func TestSkewOf(t *testing.T) {
	for _, c := range []struct {
		m        impl.Measure
		num, den int
	}{
		{measureOf(18, 17, 14, 14), 1, 35}, {measureOf(17, 18, 14, 14), 1, 35}, {measureOf(14, 14, 18, 17), 1, 35}, {measureOf(14, 14, 17, 18), 1, 35},
		{measureOf(1, 1, 1, 1), 0, 1}, {measureOf(20000, 20000, 1, 1), 0, 1}, {measureOf(1, 2, 3, 3), 1, 3}, {measureOf(30, 10, 7, 7), 1, 2}, {measureOf(4, 4, 9, 3), 1, 2},
		// The greater difference is not the greater skew.
		{measureOf(101, 103, 4, 5), 1, 9}, {measureOf(4, 5, 101, 103), 1, 9}, {measureOf(1, 2, 10000, 20000), 1, 3}, {measureOf(10000, 20000, 1, 2), 1, 3}, {measureOf(3, 4, 10000, 14000), 1, 6}, {measureOf(10000, 14000, 3, 4), 1, 6},
		// Skews that differ by little.
		{measureOf(99, 100, 100, 101), 1, 199}, {measureOf(100, 101, 99, 100), 1, 199}, {measureOf(19998, 20000, 9999, 10000), 1, 19999}, {measureOf(9999, 10000, 19998, 20000), 1, 19999}, {measureOf(19999, 20000, 19998, 19999), 1, 39997},
		{measureOf(1, 20000, 1, 1), 19999, 20001}, {measureOf(20000, 1, 1, 19999), 19999, 20001}, {measureOf(19999, 1, 20000, 1), 19999, 20001}, {measureOf(1, 19999, 1, 1), 9999, 10000},
	} {
		if num, den, ok := impl.SkewOf(c.m); !ok || num != c.num || den != c.den {
			t.Errorf("SkewOf(%v) = %d, %d, %v, not %d, %d", c.m, num, den, ok, c.num, c.den)
		}
	}
}

// skewByFraction returns the difference of two numbers, without sign, divided by their sum.
func skewByFraction(a, b int) *big.Rat {
	skew := big.NewRat(int64(a-b), int64(a+b))
	return skew.Abs(skew)
}

// checkSkew checks the skew of a Measure and what straightens it, and the same after its sides are exchanged.
func checkSkew(t *testing.T, m impl.Measure) {
	t.Helper()
	skew := skewByFraction(m.Top, m.Bottom)
	if down := skewByFraction(m.Left, m.Right); down.Cmp(skew) > 0 {
		skew = down
	}
	for _, n := range []impl.Measure{m, measureOf(m.Bottom, m.Top, m.Left, m.Right), measureOf(m.Top, m.Bottom, m.Right, m.Left)} {
		if num, den, ok := impl.SkewOf(n); !ok || !isFraction(num, den, skew) {
			t.Fatalf("SkewOf(%v) = %d, %d, %v, not %v", n, num, den, ok, skew)
		}
		across, down, ok := impl.StraightenBy(n)
		if !ok || min(n.Top, n.Bottom)+across != max(n.Top, n.Bottom) || min(n.Left, n.Right)+down != max(n.Left, n.Right) {
			t.Fatalf("StraightenBy(%v) = %d, %d, %v", n, across, down, ok)
		}
	}
	if num, den, ok := impl.SkewOf(measureOf(m.Left, m.Right, m.Top, m.Bottom)); !ok || !isFraction(num, den, skew) {
		t.Fatalf("SkewOf(%v), its widths and lengths exchanged, = %d, %d, %v, not %v", m, num, den, ok, skew)
	}
}

func TestSkewsAreExact(t *testing.T) {
	sides := []int{1, 2, 3, 4, 6, 9, 10, 99, 100, 101, 150, 9999, 10000, 10001, 19998, 19999, 20000}
	for _, top := range sides {
		for _, bottom := range sides {
			for _, left := range sides {
				for _, right := range sides {
					checkSkew(t, measureOf(top, bottom, left, right))
				}
			}
		}
	}
	next := dyeNumbers(151)
	for range 3000 {
		checkSkew(t, measureOf(next(20000)+1, next(20000)+1, next(20000)+1, next(20000)+1))
		checkSkew(t, measureOf(next(40)+1, next(40)+1, next(40)+1, next(40)+1))
	}
}

func TestStraightenBy(t *testing.T) {
	for _, c := range []struct {
		m            impl.Measure
		across, down int
	}{
		{measureOf(18, 17, 14, 14), 1, 0}, {measureOf(17, 18, 14, 14), 1, 0}, {measureOf(14, 14, 18, 17), 0, 1}, {measureOf(14, 14, 17, 18), 0, 1}, {measureOf(1, 1, 1, 1), 0, 0}, {measureOf(20000, 20000, 1, 1), 0, 0},
		{measureOf(1, 20000, 20000, 1), 19999, 19999}, {measureOf(20000, 1, 1, 20000), 19999, 19999}, {measureOf(5, 9, 100, 70), 4, 30}, {measureOf(9, 5, 70, 100), 4, 30},
	} {
		if across, down, ok := impl.StraightenBy(c.m); !ok || across != c.across || down != c.down {
			t.Errorf("StraightenBy(%v) = %d, %d, %v", c.m, across, down, ok)
		}
	}
}

func TestOffSize(t *testing.T) {
	// The first size is 35/2 by 14, the second one 100/3 by 100/7.
	first, second := gaugeOf(40, 50, 5), gaugeOf(3, 7, 0)
	for _, c := range []struct {
		c            impl.Chart
		g            impl.Gauge
		m            impl.Measure
		across, down int
	}{
		{chartOf("aab", "bba"), first, measureOf(18, 17, 14, 14), 0, 0}, {chartOf("aab", "bba"), first, measureOf(17, 18, 13, 15), 0, 0}, {chartOf("aab", "bba"), first, measureOf(17, 17, 15, 16), -1, 1}, {chartOf("aab", "bba"), first, measureOf(18, 18, 14, 15), 0, 0},
		{chartOf("aab", "bba"), first, measureOf(19, 17, 13, 14), 0, -1}, {chartOf("aab", "bba"), first, measureOf(18, 19, 13, 13), 1, -1}, {chartOf("aab", "bba"), first, measureOf(17, 16, 12, 13), -1, -2}, {chartOf("aab", "bba"), first, measureOf(16, 16, 16, 16), -2, 2},
		{chartOf("aab", "bba"), first, measureOf(1, 1, 1, 1), -17, -13}, {chartOf("aab", "bba"), first, measureOf(1, 2, 1, 2), -16, -13}, {chartOf("aab", "bba"), first, measureOf(20000, 20000, 20000, 20000), 19982, 19986},
		{chartOf("a"), second, measureOf(33, 33, 14, 14), -1, -1}, {chartOf("a"), second, measureOf(33, 34, 14, 15), 0, 0}, {chartOf("a"), second, measureOf(34, 34, 15, 15), 0, 0}, {chartOf("a"), second, measureOf(34, 35, 15, 16), 1, 1}, {chartOf("a"), second, measureOf(32, 33, 13, 14), -1, -1}, {chartOf("a"), second, measureOf(32, 32, 13, 13), -2, -2},
		{plainOf(8, 8), gaugeOf(1, 1, 200), measureOf(1, 1, 1200, 1200), -1199, 0}, {plainOf(8, 8), gaugeOf(1, 1, 200), measureOf(1200, 1200, 1, 1), 0, -1199}, {plainOf(8, 8), gaugeOf(1, 1, 200), measureOf(1199, 1200, 1200, 1201), -1, 0},
		{chartOf("a"), gaugeOf(200, 200, 0), measureOf(1, 1, 20000, 20000), 0, 19999}, {chartOf("a"), gaugeOf(200, 200, 0), measureOf(1, 2, 19999, 20000), 1, 19999},
	} {
		if across, down, ok := impl.OffSize(c.c, c.g, c.m); !ok || across != c.across || down != c.down {
			t.Errorf("OffSize(%v, %v, %v) = %d, %d, %v, not %d, %d", c.c, c.g, c.m, across, down, ok, c.across, c.down)
		}
	}
}

// offByFraction returns the mean of two numbers minus a size, rounded down.
func offByFraction(a, b int, size *big.Rat) int {
	mean := big.NewRat(int64(a+b), 2)
	return wholeBelow(mean.Sub(mean, size))
}

func TestOffSizesAreExact(t *testing.T) {
	for i, g := range someGauges() {
		for j, c := range allSizes(4) {
			if (i+j)%5 != 0 {
				continue
			}
			width, length := exactSize(c.Width, g.Across, g.Edge), exactSize(c.Height, g.Down, g.Edge)
			for _, m := range someMeasures(wholeBelow(width), wholeBelow(length)) {
				wantAcross, wantDown := offByFraction(m.Top, m.Bottom, width), offByFraction(m.Left, m.Right, length)
				if across, down, ok := impl.OffSize(c, g, m); !ok || across != wantAcross || down != wantDown {
					t.Fatalf("OffSize(%v, %v, %v) = %d, %d, %v, not %d, %d", c, g, m, across, down, ok, wantAcross, wantDown)
				}
			}
		}
	}
}

func TestWithinSize(t *testing.T) {
	c, g := chartOf("aab", "bba"), gaugeOf(40, 50, 5)
	hundred := gaugeOf(1, 1, 0)
	for _, s := range []struct {
		c       impl.Chart
		g       impl.Gauge
		m       impl.Measure
		percent int
		want    bool
	}{
		{c, g, measureOf(18, 17, 14, 14), 3, true}, {c, g, measureOf(18, 17, 14, 14), 2, false}, {c, g, measureOf(18, 18, 14, 14), 0, false}, {c, g, measureOf(17, 17, 14, 14), 0, false},
		// Of 14 millimeters, 2 are 14.28.. percent, and 7 are 50 percent.
		{c, g, measureOf(17, 18, 16, 14), 14, false}, {c, g, measureOf(17, 18, 16, 14), 15, true}, {c, g, measureOf(17, 18, 14, 12), 14, false}, {c, g, measureOf(17, 18, 14, 12), 15, true},
		{c, g, measureOf(17, 18, 21, 7), 50, true}, {c, g, measureOf(17, 18, 21, 7), 49, false}, {c, g, measureOf(17, 18, 22, 14), 50, false}, {c, g, measureOf(17, 18, 14, 6), 50, false},
		// Of 17.5 millimeters, 3.5 are 20 percent.
		{c, g, measureOf(21, 14, 14, 14), 20, true}, {c, g, measureOf(21, 14, 14, 14), 19, false}, {c, g, measureOf(22, 14, 14, 14), 20, false}, {c, g, measureOf(21, 13, 14, 14), 20, false},
		// All four count, the mean of two does not.
		{plainOf(1, 1), hundred, measureOf(95, 105, 105, 95), 5, true}, {plainOf(1, 1), hundred, measureOf(94, 105, 105, 95), 5, false}, {plainOf(1, 1), hundred, measureOf(95, 106, 105, 95), 5, false}, {plainOf(1, 1), hundred, measureOf(95, 105, 106, 95), 5, false}, {plainOf(1, 1), hundred, measureOf(95, 105, 105, 94), 5, false},
		{plainOf(1, 1), hundred, measureOf(100, 100, 100, 100), 0, true}, {plainOf(1, 1), hundred, measureOf(101, 100, 100, 100), 0, false}, {plainOf(1, 1), hundred, measureOf(100, 99, 100, 100), 0, false}, {plainOf(1, 1), hundred, measureOf(100, 100, 101, 100), 0, false}, {plainOf(1, 1), hundred, measureOf(100, 100, 100, 99), 0, false},
		{plainOf(1, 1), hundred, measureOf(1, 200, 200, 1), 100, true}, {plainOf(1, 1), hundred, measureOf(201, 1, 1, 1), 100, false}, {plainOf(1, 1), hundred, measureOf(1, 201, 1, 1), 100, false}, {plainOf(1, 1), hundred, measureOf(1, 1, 201, 1), 100, false}, {plainOf(1, 1), hundred, measureOf(1, 1, 1, 201), 100, false},
		{plainOf(1, 1), hundred, measureOf(1, 199, 199, 1), 99, true}, {plainOf(1, 1), hundred, measureOf(1, 200, 199, 1), 99, false},
		// The percents are those of the carpet, not of the Measure.
		{plainOf(1, 1), hundred, measureOf(80, 80, 80, 80), 20, true}, {plainOf(1, 1), hundred, measureOf(125, 125, 125, 125), 24, false}, {plainOf(1, 1), hundred, measureOf(125, 125, 125, 125), 25, true},
		// Widths are told from the width, lengths from the length.
		{plainOf(2, 1), hundred, measureOf(200, 200, 100, 100), 0, true}, {plainOf(2, 1), hundred, measureOf(100, 100, 200, 200), 0, false}, {plainOf(2, 1), hundred, measureOf(240, 160, 120, 80), 20, true}, {plainOf(2, 1), hundred, measureOf(240, 160, 121, 80), 20, false}, {plainOf(2, 1), hundred, measureOf(241, 160, 120, 80), 20, false},
		{plainOf(8, 8), gaugeOf(1, 1, 200), measureOf(1200, 2400, 1, 1200), 100, true}, {plainOf(8, 8), gaugeOf(1, 1, 200), measureOf(1200, 2401, 1, 1200), 100, false}, {plainOf(8, 8), gaugeOf(1, 1, 200), measureOf(20000, 20000, 20000, 20000), 100, false},
		// Half a millimeter.
		{plainOf(1, 1), gaugeOf(200, 200, 0), measureOf(1, 1, 1, 1), 100, true}, {plainOf(1, 1), gaugeOf(200, 200, 0), measureOf(1, 1, 1, 1), 99, false}, {plainOf(1, 1), gaugeOf(200, 200, 0), measureOf(2, 1, 1, 1), 100, false},
	} {
		if is, ok := impl.WithinSize(s.c, s.g, s.m, s.percent); !ok || is != s.want {
			t.Errorf("WithinSize(%v, %v, %v, %d) = %v, %v", s.c, s.g, s.m, s.percent, is, ok)
		}
	}
}

// percentOff returns by how many percent of a size a number differs from it.
func percentOff(n int, size *big.Rat) *big.Rat {
	off := big.NewRat(int64(n), 1)
	off.Sub(off, size)
	off.Quo(off.Abs(off), size)
	return off.Mul(off, big.NewRat(100, 1))
}

func TestWithinSizesAreExact(t *testing.T) {
	percents := []int{0, 1, 2, 3, 5, 10, 20, 25, 33, 34, 50, 67, 99, 100}
	within, without := 0, 0
	for i, g := range someGauges() {
		for j, c := range allSizes(5) {
			if (i+j)%7 != 0 {
				continue
			}
			width, length := exactSize(c.Width, g.Across, g.Edge), exactSize(c.Height, g.Down, g.Edge)
			for _, m := range someMeasures(wholeBelow(width), wholeBelow(length)) {
				most := percentOff(m.Top, width)
				for _, off := range []*big.Rat{percentOff(m.Bottom, width), percentOff(m.Left, length), percentOff(m.Right, length)} {
					if off.Cmp(most) > 0 {
						most = off
					}
				}
				for _, percent := range append(percents, min(wholeBelow(most), 100), min(wholeBelow(most)+1, 100)) {
					want := most.Cmp(big.NewRat(int64(percent), 1)) <= 0
					if is, ok := impl.WithinSize(c, g, m, percent); !ok || is != want {
						t.Fatalf("WithinSize(%v, %v, %v, %d) = %v, %v, but it is off by %v percent", c, g, m, percent, is, ok, most)
					}
					if want {
						within++
					} else {
						without++
					}
				}
			}
		}
	}
	if within < 1000 || without < 1000 {
		t.Errorf("%d are within, %d are not", within, without)
	}
}

// A carpet of 1000 by 500 millimeters that is off by just some percent, and by a millimeter more.
func TestWithinSizeAtEachPercent(t *testing.T) {
	c, g := plainOf(6, 1), gaugeOf(1, 1, 200)
	for percent := range 101 {
		for _, s := range []struct {
			m    impl.Measure
			want bool
		}{
			{measureOf(1000+10*percent, 1000, 500, 500), true}, {measureOf(1000, 1000+10*percent, 500, 500), true}, {measureOf(1000, 1000, 500+5*percent, 500), true}, {measureOf(1000, 1000, 500, 500+5*percent), true},
			{measureOf(1001+10*percent, 1000, 500, 500), false}, {measureOf(1000, 1001+10*percent, 500, 500), false}, {measureOf(1000, 1000, 501+5*percent, 500), false}, {measureOf(1000, 1000, 500, 501+5*percent), false},
			{measureOf(max(1000-10*percent, 1), 1000, 500, 500), true}, {measureOf(1000, 1000, 500, max(500-5*percent, 1)), true}, {measureOf(max(999-10*percent, 1), 1000, 500, 500), percent == 100}, {measureOf(1000, 1000, 500, max(499-5*percent, 1)), percent == 100},
		} {
			if is, ok := impl.WithinSize(c, g, s.m, percent); !ok || is != s.want {
				t.Errorf("WithinSize(%v, %v, %v, %d) = %v, %v", c, g, s.m, percent, is, ok)
			}
		}
	}
	for _, n := range append(sizeNumbers(), 102, 150, 199) {
		is, ok := impl.WithinSize(c, g, measureOf(1000, 1000, 500, 500), n)
		if valid := n >= 0 && n <= 100; ok != valid || is != valid {
			t.Errorf("WithinSize(.., %d) = %v, %v", n, is, ok)
		}
	}
}

// checkSizeRefused calls each function that takes a Chart and a Gauge, of which one is not valid, and checks that all fail.
func checkSizeRefused(t *testing.T, c impl.Chart, g impl.Gauge) {
	t.Helper()
	if a, b, p, q, ok := impl.SizeOf(c, g); ok || a != 0 || b != 0 || p != 0 || q != 0 {
		t.Errorf("SizeOf(%v, %v) = %d, %d, %d, %d, %v", c, g, a, b, p, q, ok)
	}
	if num, den, ok := impl.AspectOf(c, g); ok || num != 0 || den != 0 {
		t.Errorf("AspectOf(%v, %v) = %d, %d, %v", c, g, num, den, ok)
	}
	for _, m := range append(invalidMeasures()[:8], someMeasures(17, 14)[:6]...) {
		checkMeasuredRefused(t, c, g, m)
	}
}

// checkMeasuredRefused calls each function that takes a Chart, a Gauge and a Measure, of which one is not valid, and checks that all fail.
func checkMeasuredRefused(t *testing.T, c impl.Chart, g impl.Gauge, m impl.Measure) {
	t.Helper()
	if across, down, ok := impl.OffSize(c, g, m); ok || across != 0 || down != 0 {
		t.Errorf("OffSize(%v, %v, %v) = %d, %d, %v", c, g, m, across, down, ok)
	}
	for _, percent := range []int{-1, 0, 50, 100, 101} {
		if is, ok := impl.WithinSize(c, g, m, percent); ok || is {
			t.Errorf("WithinSize(%v, %v, %v, %d) = %v, %v", c, g, m, percent, is, ok)
		}
	}
}

func TestSizeFunctionsRefuseInvalidCharts(t *testing.T) {
	for _, c := range invalidCharts() {
		for _, g := range []impl.Gauge{gaugeOf(40, 50, 5), gaugeOf(1, 1, 0), gaugeOf(200, 200, 200), {}} {
			checkSizeRefused(t, c, g)
		}
	}
}

func TestSizeFunctionsRefuseInvalidGauges(t *testing.T) {
	for _, g := range invalidGauges() {
		for _, c := range []impl.Chart{chartOf("a"), chartOf("aab", "bba"), mixedChart(8, 8, 2)} {
			checkSizeRefused(t, c, g)
		}
		if knots, ok := impl.KnotsPerArea(g); ok || knots != 0 {
			t.Errorf("KnotsPerArea(%v) = %d, %v", g, knots, ok)
		}
		for _, n := range []int{-1, 0, 1, 100, 20000, 20001} {
			for _, length := range []int{0, 1, 100, 20000} {
				if across, down, ok := impl.KnotsForSize(g, n, length); ok || across != 0 || down != 0 {
					t.Errorf("KnotsForSize(%v, %d, %d) = %d, %d, %v", g, n, length, across, down, ok)
				}
			}
		}
	}
}

func TestSizeFunctionsRefuseInvalidMeasures(t *testing.T) {
	for _, m := range invalidMeasures() {
		for _, c := range []impl.Chart{chartOf("a"), chartOf("aab", "bba"), mixedChart(8, 8, 2), {}} {
			for _, g := range []impl.Gauge{gaugeOf(40, 50, 5), gaugeOf(1, 1, 0), gaugeOf(200, 200, 200), {}} {
				checkMeasuredRefused(t, c, g, m)
			}
		}
		if num, den, ok := impl.SkewOf(m); ok || num != 0 || den != 0 {
			t.Errorf("SkewOf(%v) = %d, %d, %v", m, num, den, ok)
		}
		if across, down, ok := impl.StraightenBy(m); ok || across != 0 || down != 0 {
			t.Errorf("StraightenBy(%v) = %d, %d, %v", m, across, down, ok)
		}
	}
}

// sizeAnswers calls each function of the chapter, and returns all that they return as text.
func sizeAnswers(c impl.Chart, g impl.Gauge, m impl.Measure, a, b int) string {
	width, widthDen, length, lengthDen, okSize := impl.SizeOf(c, g)
	knots, okKnots := impl.KnotsPerArea(g)
	aspect, aspectDen, okAspect := impl.AspectOf(c, g)
	across, down, okFor := impl.KnotsForSize(g, a, b)
	skew, skewDen, okSkew := impl.SkewOf(m)
	offAcross, offDown, okOff := impl.OffSize(c, g, m)
	is, okIs := impl.WithinSize(c, g, m, a)
	byAcross, byDown, okBy := impl.StraightenBy(m)
	return fmt.Sprint(impl.IsGauge(g), impl.IsMeasure(m), width, widthDen, length, lengthDen, okSize, knots, okKnots, aspect, aspectDen, okAspect,
		across, down, okFor, skew, skewDen, okSkew, offAcross, offDown, okOff, is, okIs, byAcross, byDown, okBy)
}

// What lies beyond the length of the knots does not matter, and all of them stay as they are; their colors do not matter, either.
func TestSizeFunctionsChangeNoArgument(t *testing.T) {
	gauges := someGauges()
	for i, c := range evenCharts() {
		long, knots := longChart(c, 1, 77, -1)
		g := gauges[i%len(gauges)]
		for _, m := range someMeasures(c.Width, c.Height) {
			text, plain := sizeAnswers(long, g, m, i%101, 100), sizeAnswers(plainOf(c.Width, c.Height), g, m, i%101, 100)
			if text != plain {
				t.Fatalf("for %v, %v and %v there is %s, not %s", c, g, m, text, plain)
			}
		}
		if !slices.Equal(knots, append(slices.Clone(c.Knots), 1, 77, -1)) {
			t.Fatalf("%v has become %v", c, knots)
		}
	}
}

// Each function returns for odd numbers, Charts, Gauges and Measures, and the same at each call.
func TestSizeFunctionsAreTotal(t *testing.T) {
	charts := append(invalidCharts(), chartOf("a"), chartOf("aab", "bba"), mixedChart(8, 8, 3))
	gauges := append(invalidGauges(), someGauges()...)
	measures := append(invalidMeasures(), someMeasures(17, 14)...)
	numbers := append(sizeNumbers(), math.MaxInt32, math.MinInt32)
	for i, c := range charts {
		for j, g := range gauges {
			for k := range 8 {
				m := measures[(i*7+j*3+k*11)%len(measures)]
				a, b := numbers[(i+j*5+k)%len(numbers)], numbers[(i*3+j+k*7)%len(numbers)]
				if first, second := sizeAnswers(c, g, m, a, b), sizeAnswers(c, g, m, a, b); first != second {
					t.Fatalf("for %v, %v, %v, %d and %d there is %s, and then %s", c, g, m, a, b, first, second)
				}
			}
		}
	}
}

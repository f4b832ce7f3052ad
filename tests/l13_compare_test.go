package tests

import (
	"fmt"
	"math"
	"math/big"
	"slices"
	"testing"

	"loop.example/g01023/impl"
)

// shiftOrder has all shifts in the order in which they are preferred among equally good ones.
var shiftOrder = [][2]int{
	{0, 0},
	{-1, 0}, {0, -1}, {0, 1}, {1, 0},
	{-2, 0}, {-1, -1}, {-1, 1}, {0, -2}, {0, 2}, {1, -1}, {1, 1}, {2, 0},
	{-2, -1}, {-2, 1}, {-1, -2}, {-1, 2}, {1, -2}, {1, 2}, {2, -1}, {2, 1},
	{-2, -2}, {-2, 2}, {2, -2}, {2, 2},
}

// canvasComparison is what comes out when a plan is held against a canvas on which a photograph lies.
type canvasComparison struct {
	wrong   [][2]int
	rows    []int
	overlap int
}

// comparedOnCanvas lays the photograph on an empty canvas, moved up and to the left by the shift, and then looks at each knot of the plan at its own place there.
func comparedOnCanvas(plan, photo impl.Chart, by [2]int) canvasComparison {
	const margin = 4
	var canvas [2*margin + 8][2*margin + 8]int
	for row := range photo.Height {
		for col := range photo.Width {
			// 0 is the empty canvas.
			canvas[margin+row-by[0]][margin+col-by[1]] = knotIn(photo, row, col) + 1
		}
	}
	c := canvasComparison{rows: make([]int, plan.Height)}
	for row := range plan.Height {
		for col := range plan.Width {
			seen := canvas[margin+row][margin+col]
			if seen == 0 {
				continue
			}
			c.overlap++
			if seen != knotIn(plan, row, col)+1 {
				c.wrong = append(c.wrong, [2]int{row, col})
				c.rows[row]++
			}
		}
	}
	return c
}

// suitsByRules compares the overlap with what lies outside of it.
func suitsByRules(plan impl.Chart, c canvasComparison) bool {
	return c.overlap >= len(plan.Knots)-c.overlap
}

// bestByTrial tries all shifts in the order in which they are preferred.
func bestByTrial(plan, photo impl.Chart) ([2]int, bool) {
	var best [2]int
	var share *big.Rat
	for _, by := range shiftOrder {
		c := comparedOnCanvas(plan, photo, by)
		if !suitsByRules(plan, c) {
			continue
		}
		if r := big.NewRat(int64(len(c.wrong)), int64(c.overlap)); share == nil || r.Cmp(share) < 0 {
			best, share = by, r
		}
	}
	return best, share != nil
}

// leastPercent returns the smallest number of percent for which the photograph is one of the plan, or 101 if no shift suits.
func leastPercent(plan, photo impl.Chart) int {
	least := 101
	for _, by := range shiftOrder {
		if c := comparedOnCanvas(plan, photo, by); suitsByRules(plan, c) {
			percent := 0
			for len(c.wrong)*100 > percent*c.overlap {
				percent++
			}
			least = min(least, percent)
		}
	}
	return least
}

// photoOf returns a photograph with a size of a plan that is shifted; what lies outside of the plan is mixed, and of the knots about one in some is wrong, or none for 0.
func photoOf(plan impl.Chart, width, height int, by [2]int, oneIn, seed int) impl.Chart {
	next := dyeNumbers(seed)
	photo := impl.Chart{Width: width, Height: height}
	for i := range width * height {
		row, col := i/width-by[0], i%width-by[1]
		if row < 0 || col < 0 || row >= plan.Height || col >= plan.Width || oneIn > 0 && next(oneIn) == 0 {
			photo.Knots = append(photo.Knots, next(6))
		} else {
			photo.Knots = append(photo.Knots, knotIn(plan, row, col))
		}
	}
	return photo
}

// photoPairs returns many plans with a photograph each: of all pairs of sizes, with all shifts, and all small ones in few colors.
func photoPairs() [][2]impl.Chart {
	var pairs [][2]impl.Chart
	seed := 0
	for _, plan := range allSizes(5) {
		for width := 1; width <= 8; width++ {
			for height := 1; height <= 8; height++ {
				by := shiftOrder[seed%25]
				if seed%4 == 0 {
					plan = patchyChart(plan.Width, plan.Height, 2, seed)
				}
				pairs = append(pairs, [2]impl.Chart{plan, photoOf(plan, width, height, by, seed%7, seed)})
				seed++
			}
		}
	}
	for _, by := range shiftOrder {
		for oneIn := range 9 {
			plan := mixedChart(8, 8-oneIn%3, seed)
			pairs = append(pairs, [2]impl.Chart{plan, photoOf(plan, 8, 8-oneIn%2, by, oneIn, seed)})
			seed++
		}
	}
	small := slices.Concat(smallCharts(1, 1, 2), smallCharts(2, 1, 2), smallCharts(1, 2, 2), smallCharts(2, 2, 2), smallCharts(3, 1, 3), smallCharts(1, 4, 2), smallCharts(3, 2, 2))
	for _, plan := range small {
		for _, photo := range small {
			pairs = append(pairs, [2]impl.Chart{plan, photo})
		}
	}
	return pairs
}

// checkCompared checks what the functions for one shift tell of two Charts.
func checkCompared(t *testing.T, plan, photo impl.Chart, by [2]int, want canvasComparison) {
	t.Helper()
	if n, overlap, ok := impl.DifferencesAt(plan, photo, by[0], by[1]); !ok || n != len(want.wrong) || overlap != want.overlap {
		t.Fatalf("DifferencesAt(%v, %v, %v) = %d, %d, %v, not %d and %d", plan, photo, by, n, overlap, ok, len(want.wrong), want.overlap)
	}
	if wrong, ok := impl.WrongKnots(plan, photo, by[0], by[1]); !ok || !slices.Equal(wrong, want.wrong) {
		t.Fatalf("WrongKnots(%v, %v, %v) = %v, %v, not %v", plan, photo, by, wrong, ok, want.wrong)
	}
	if rows, ok := impl.WrongRows(plan, photo, by[0], by[1]); !ok || !slices.Equal(rows, want.rows) {
		t.Fatalf("WrongRows(%v, %v, %v) = %v, %v, not %v", plan, photo, by, rows, ok, want.rows)
	}
}

func TestComparisonsAtAShift(t *testing.T) {
	plan, photo := chartOf("abc", "def"), chartOf("bcc", "dff", "abc")
	for _, c := range []struct {
		plan, photo impl.Chart
		by          [2]int
		want        canvasComparison
	}{
		{chartOf("ab", "ba"), chartOf("ab", "bb"), [2]int{0, 0}, canvasComparison{[][2]int{{1, 1}}, []int{0, 1}, 4}},
		{plan, photo, [2]int{0, 0}, canvasComparison{[][2]int{{0, 0}, {0, 1}, {1, 1}}, []int{2, 1}, 6}},
		// The plan is compared with what lies further down and to the right in the photograph.
		{plan, photo, [2]int{2, 0}, canvasComparison{nil, []int{0, 0}, 3}},
		{plan, photo, [2]int{0, -1}, canvasComparison{[][2]int{{1, 1}}, []int{0, 1}, 4}},
		{plan, photo, [2]int{0, 1}, canvasComparison{[][2]int{{0, 0}, {0, 1}, {1, 0}, {1, 1}}, []int{2, 2}, 4}},
		{plan, photo, [2]int{1, 0}, canvasComparison{[][2]int{{0, 0}, {0, 1}, {0, 2}, {1, 0}, {1, 1}, {1, 2}}, []int{3, 3}, 6}},
		{plan, photo, [2]int{-1, -1}, canvasComparison{[][2]int{{1, 1}, {1, 2}}, []int{0, 2}, 2}},
		{plan, photo, [2]int{-1, 2}, canvasComparison{[][2]int{{1, 0}}, []int{0, 1}, 1}},
		{plan, photo, [2]int{2, -2}, canvasComparison{[][2]int{{0, 2}}, []int{1, 0}, 1}},
		// A photograph that is greater or smaller than the plan.
		{chartOf("ab"), chartOf("cab"), [2]int{0, 1}, canvasComparison{nil, []int{0}, 2}},
		{chartOf("ab"), chartOf("cab"), [2]int{0, 0}, canvasComparison{[][2]int{{0, 0}, {0, 1}}, []int{2}, 2}},
		{chartOf("ab"), chartOf("cab"), [2]int{0, 2}, canvasComparison{[][2]int{{0, 0}}, []int{1}, 1}},
		{chartOf("cab"), chartOf("ab"), [2]int{0, -1}, canvasComparison{nil, []int{0}, 2}},
		{chartOf("ca", "ba", "ff"), chartOf("b"), [2]int{-1, 0}, canvasComparison{nil, []int{0, 0, 0}, 1}},
		{chartOf("ca", "ba", "ff"), chartOf("b"), [2]int{-2, -1}, canvasComparison{[][2]int{{2, 1}}, []int{0, 0, 1}, 1}},
	} {
		checkCompared(t, c.plan, c.photo, c.by, c.want)
	}
}

// Without overlap there is nothing to compare, but the shift and the Charts are valid.
func TestShiftsWithoutOverlap(t *testing.T) {
	for _, c := range []struct {
		plan, photo impl.Chart
		shifts      [][2]int
	}{
		{chartOf("a"), chartOf("b"), shiftOrder[1:]},
		{chartOf("a"), chartOf("a"), shiftOrder[1:]},
		{chartOf("ab", "cd"), chartOf("ba", "dc"), [][2]int{{2, 0}, {-2, 0}, {0, 2}, {0, -2}, {2, 2}, {-2, -2}, {2, -2}, {-2, 2}, {1, 2}, {2, 1}, {-1, 2}, {-2, 1}}},
		{chartOf("abcdefab"), chartOf("bcdefabc"), [][2]int{{1, 0}, {-1, 0}, {2, 0}, {-2, 0}, {1, 2}, {-1, -2}, {2, 1}}},
		{chartOf("a", "b", "c", "d"), chartOf("b", "c", "d", "e"), [][2]int{{0, 1}, {0, -1}, {0, 2}, {0, -2}, {2, 1}, {-1, -2}}},
		// The place beyond the last column is not the first one of the next row.
		{chartOf("a", "a", "a"), chartOf("ab", "ab", "ab"), [][2]int{{0, 2}, {0, -1}, {1, -1}, {0, -2}, {1, -2}, {-1, 2}}},
		{chartOf("aa"), chartOf("aabbcc", "ddeeff"), [][2]int{{2, 0}, {-1, 0}, {0, -2}, {2, 2}, {1, -2}}},
		{chartOf("abcdefab", "abcdefab"), chartOf("ab", "cd"), [][2]int{{2, 0}, {-2, 0}, {0, 2}, {1, 2}, {-1, 2}, {2, -2}}},
	} {
		for _, by := range c.shifts {
			if comparedOnCanvas(c.plan, c.photo, by).overlap != 0 {
				t.Fatalf("%v and %v have an overlap for %v", c.plan, c.photo, by)
			}
			checkCompared(t, c.plan, c.photo, by, canvasComparison{rows: make([]int, c.plan.Height)})
		}
	}
}

// All pairs of Charts for all shifts against the canvas.
func TestComparisonsOnCanvas(t *testing.T) {
	without := 0
	for _, pair := range photoPairs() {
		for _, by := range shiftOrder {
			want := comparedOnCanvas(pair[0], pair[1], by)
			checkCompared(t, pair[0], pair[1], by, want)
			if want.overlap == 0 {
				without++
			}
		}
	}
	if without < 10000 {
		t.Errorf("only %d comparisons are without overlap", without)
	}
}

// Promise 13: a Chart has no differences from itself without a shift.
func TestChartHasNoDifferencesFromItself(t *testing.T) {
	for seed, c := range areaCharts() {
		same := cloneChart(c)
		for _, photo := range []impl.Chart{c, same} {
			checkCompared(t, c, photo, [2]int{0, 0}, canvasComparison{rows: make([]int, c.Height), overlap: len(c.Knots)})
			if down, across, ok := impl.BestShift(c, photo); !ok || down != 0 || across != 0 {
				t.Fatalf("BestShift(%v, %v) = %d, %d, %v", c, photo, down, across, ok)
			}
			for _, percent := range []int{0, 1, 50, 100} {
				if is, ok := impl.IsSamePiece(c, photo, percent); !ok || !is {
					t.Fatalf("IsSamePiece(%v, %v, %d) = %v, %v", c, photo, percent, is, ok)
				}
			}
			if swapped, ok := impl.SwappedColors(c, photo); !ok || len(swapped) != 0 {
				t.Fatalf("SwappedColors(%v, %v) = %v, %v", c, photo, swapped, ok)
			}
			if merged, ok := impl.MergePhotos(c, photo, c); !ok || !sameChart(merged, same) {
				t.Fatalf("MergePhotos(%v, %v, the same) = %v, %v", c, photo, merged, ok)
			}
		}
		if shifted, ok := impl.ShiftPhoto(c, 0, 0, seed%6); !ok || !sameChart(shifted, same) {
			t.Fatalf("ShiftPhoto(%v, 0, 0, %d) = %v, %v", c, seed%6, shifted, ok)
		}
	}
}

// Each knot of a Chart that gets another color is the only difference.
func TestEachWrongKnotIsFound(t *testing.T) {
	for seed, c := range allSizes(9) {
		for place := range c.Knots {
			photo := cloneChart(c)
			photo.Knots[place] = (photo.Knots[place] + 1 + seed%5) % 6
			rows := make([]int, c.Height)
			rows[place/c.Width] = 1
			want := canvasComparison{[][2]int{{place / c.Width, place % c.Width}}, rows, len(c.Knots)}
			checkCompared(t, c, photo, [2]int{0, 0}, want)
			checkCompared(t, photo, c, [2]int{0, 0}, want)
			if swapped, ok := impl.SwappedColors(c, photo); !ok || !slices.Equal(swapped, [][2]int{{c.Knots[place], photo.Knots[place]}}) {
				t.Fatalf("SwappedColors(%v, %v) = %v, %v", c, photo, swapped, ok)
			}
		}
	}
}

// What is different from a photograph for a shift is as different the other way around.
func TestDifferencesAreMutual(t *testing.T) {
	for _, pair := range photoPairs() {
		for _, by := range shiftOrder {
			n, overlap, ok := impl.DifferencesAt(pair[0], pair[1], by[0], by[1])
			back, over, fine := impl.DifferencesAt(pair[1], pair[0], -by[0], -by[1])
			if !ok || !fine || n != back || overlap != over {
				t.Fatalf("%v and %v have %d differences of %d for %v, but %d of %d backwards", pair[0], pair[1], n, overlap, by, back, over)
			}
		}
	}
}

func TestBestShift(t *testing.T) {
	for _, c := range []struct {
		plan, photo  impl.Chart
		down, across int
		ok           bool
	}{
		{chartOf("ab", "ba"), chartOf("ab", "bb"), 0, 0, true},
		{chartOf("a"), chartOf("b"), 0, 0, true}, {chartOf("a"), chartOf("a"), 0, 0, true},
		{chartOf("abcd"), chartOf("fabc"), 0, 1, true}, {chartOf("abcd"), chartOf("bcdf"), 0, -1, true},
		{chartOf("abcd"), chartOf("ffab"), 0, 2, true}, {chartOf("abcd"), chartOf("cdff"), 0, -2, true},
		{chartOf("a", "b", "c", "d"), chartOf("f", "f", "a", "b"), 2, 0, true}, {chartOf("a", "b", "c", "d"), chartOf("c", "d", "f", "f"), -2, 0, true},
		{chartOf("a"), chartOf("bbb", "bbb", "bba"), 2, 2, true}, {chartOf("a"), chartOf("bbb", "bbb", "bab"), 2, 1, true},
		// The overlap is half of the plan, or a knot less; a shift without differences that does not suit is not the best one.
		{chartOf("abcd"), chartOf("cd"), 0, -2, true}, {chartOf("abcde"), chartOf("cd"), 0, 0, false}, {chartOf("abcde"), chartOf("fde"), 0, -2, true},
		{chartOf("abcd"), chartOf("ffd"), 0, -1, true}, {chartOf("abc"), chartOf("c"), 0, 0, false}, {chartOf("ab"), chartOf("b"), 0, -1, true},
		{chartOf("ab", "cd"), chartOf("d"), 0, 0, false}, {chartOf("ab", "cd"), chartOf("cd"), -1, 0, true}, {chartOf("abcd", "efab"), chartOf("efa"), 0, 0, false},
		{chartOf("abcdefab", "abcdefab"), chartOf("abcdefab"), 0, 0, true}, {chartOf("abcdefab", "abcdefab", "abcdefab"), chartOf("abcdefab"), 0, 0, false},
		// One difference of 4 is less than one of 3; 3 of 5 are less than 2 of 3, and 4 of 7 less than 3 of 5, but 1 of 2 is as good as 2 of 4.
		{chartOf("aabbc"), chartOf("ffabb"), 0, 1, true}, {chartOf("caaaa"), chartOf("ccacbb"), 0, 0, true}, {chartOf("bbccacbb"), chartOf("cfcacfa"), 0, -1, true},
		{chartOf("aaab"), chartOf("ddab"), 0, 0, true},
		// Equally good ones: first the smaller sum, then what lies further up, then what lies further left.
		{chartOf("aaaa"), chartOf("aaaa"), 0, 0, true}, {chartOf("aa"), chartOf("bb"), 0, 0, true},
		{chartOf("a"), chartOf("ba", "ab"), 0, 1, true}, {chartOf("a"), chartOf("bb", "aa"), 1, 0, true}, {chartOf("a"), chartOf("bba", "baa"), 0, 2, true},
		{chartOf("a"), chartOf("bbb", "bba", "bab"), 1, 2, true}, {chartOf("a"), chartOf("bbb", "bbb", "aba"), 2, 0, true},
		{chartOf("a"), chartOf("bba", "bab", "abb"), 0, 2, true}, {chartOf("a"), chartOf("bbb", "bab", "abb"), 1, 1, true},
		{chartOf("bab", "aba", "bab"), chartOf("aba", "bab", "aba"), -1, 0, true},
		{chartOf("bbb", "bab", "bbb"), chartOf("aba", "bbb", "aba"), -1, 0, true},
		// The smaller sum comes before the lexicographically smaller shift.
		{chartOf("a"), chartOf("bba", "abb"), 1, 0, true}, {chartOf("a"), chartOf("bbb", "bba", "abb"), 2, 0, true},
		{chartOf("abab", "abab", "abab", "abab"), chartOf("baba", "baba", "baba", "baba"), 0, -1, true},
	} {
		if down, across, ok := impl.BestShift(c.plan, c.photo); ok != c.ok || down != c.down || across != c.across {
			t.Errorf("BestShift(%v, %v) = %d, %d, %v, not %d, %d, %v", c.plan, c.photo, down, across, ok, c.down, c.across, c.ok)
		}
	}
}

func TestBestShiftByTrial(t *testing.T) {
	found, none := map[[2]int]int{}, 0
	for _, pair := range photoPairs() {
		want, valid := bestByTrial(pair[0], pair[1])
		down, across, ok := impl.BestShift(pair[0], pair[1])
		if ok != valid || down != want[0] || across != want[1] {
			t.Fatalf("BestShift(%v, %v) = %d, %d, %v, not %v, %v", pair[0], pair[1], down, across, ok, want, valid)
		}
		if valid {
			found[want]++
		} else {
			none++
		}
	}
	for _, by := range shiftOrder {
		if found[by] < 10 {
			t.Errorf("the shift %v is the best one only %d times", by, found[by])
		}
	}
	if none < 1000 {
		t.Errorf("only %d times no shift suits", none)
	}
}

// Two shifts that are nearly equally good differ by their exact shares: 13 differences of 49 are less than 17 of 64, by 1 of 3136.
func TestBestShiftOfNearlyEqualOnes(t *testing.T) {
	plan := chartOf("ddcaafbc", "dcabebeb", "dabefebc", "adefebcb", "bfdedfbd", "adfdfeaf", "dfdcebac", "ffeeaaef")
	photo := chartOf("ddcaafec", "dcaaebcb", "cabebebc", "adcfebcb", "defedccd", "adfdfedf", "dfdfcaac", "ffeebabf")
	for _, c := range []struct {
		by         [2]int
		n, overlap int
	}{{[2]int{0, 0}, 17, 64}, {[2]int{1, -1}, 13, 49}} {
		if n, overlap, ok := impl.DifferencesAt(plan, photo, c.by[0], c.by[1]); !ok || n != c.n || overlap != c.overlap {
			t.Errorf("for %v there are %d differences of %d, %v, not %d of %d", c.by, n, overlap, ok, c.n, c.overlap)
		}
	}
	if down, across, ok := impl.BestShift(plan, photo); !ok || down != 1 || across != -1 {
		t.Errorf("BestShift(%v, %v) = %d, %d, %v, not 1, -1", plan, photo, down, across, ok)
	}
}

// A plan that does not repeat itself is found again after each shift, where all that is seen of it is right.
func TestShiftedPhotosAreFound(t *testing.T) {
	plan := mixedChart(8, 8, 1)
	for _, by := range shiftOrder {
		photo := photoOf(plan, 8, 8, by, 0, 3)
		if down, across, ok := impl.BestShift(plan, photo); !ok || down != by[0] || across != by[1] {
			t.Errorf("the photograph shifted by %v is found at %d, %d, %v", by, down, across, ok)
		}
		if is, ok := impl.IsSamePiece(plan, photo, 0); !ok || !is {
			t.Errorf("the photograph shifted by %v is one of the plan: %v, %v", by, is, ok)
		}
	}
}

func TestIsSamePiece(t *testing.T) {
	for _, c := range []struct {
		plan, photo impl.Chart
		percent     int
		want        bool
	}{
		{chartOf("ab", "ba"), chartOf("ab", "bb"), 25, true}, {chartOf("ab", "ba"), chartOf("ab", "bb"), 24, false},
		{chartOf("a"), chartOf("b"), 100, true}, {chartOf("a"), chartOf("b"), 99, false}, {chartOf("a"), chartOf("b"), 0, false}, {chartOf("a"), chartOf("a"), 0, true},
		// One of three, of six and of eight knots.
		{chartOf("aaa"), chartOf("aba"), 33, false}, {chartOf("aaa"), chartOf("aba"), 34, true}, {chartOf("acecec"), chartOf("aceced"), 16, false}, {chartOf("acecec"), chartOf("aceced"), 17, true},
		{chartOf("abcdefab"), chartOf("abcaefab"), 12, false}, {chartOf("abcdefab"), chartOf("abcaefab"), 13, true},
		// After a shift, and by what overlaps only.
		{chartOf("abcd"), chartOf("ffab"), 0, true}, {chartOf("abcde"), chartOf("ffabf"), 33, false}, {chartOf("abcde"), chartOf("ffabf"), 34, true},
		{chartOf("abcd"), chartOf("cd"), 0, true},
		// No shift suits, though all that overlaps is right.
		{chartOf("abc"), chartOf("c"), 100, false}, {chartOf("abc"), chartOf("a"), 100, false}, {chartOf("abcde"), chartOf("cd"), 100, false}, {chartOf("ab", "cd"), chartOf("d"), 0, false},
		{chartOf("abcd"), chartOf("ffd"), 0, false}, {chartOf("abcd"), chartOf("ffd"), 66, false}, {chartOf("abcd"), chartOf("ffd"), 67, true},
	} {
		if is, ok := impl.IsSamePiece(c.plan, c.photo, c.percent); !ok || is != c.want {
			t.Errorf("IsSamePiece(%v, %v, %d) = %v, %v, not %v", c.plan, c.photo, c.percent, is, ok, c.want)
		}
	}
}

func TestIsSamePieceByTrial(t *testing.T) {
	found := map[int]int{}
	for i, pair := range photoPairs() {
		least := leastPercent(pair[0], pair[1])
		found[least]++
		percents := []int{0, least - 1, least, least + 1, 99, 100}
		if i%50 == 0 {
			for percent := range 101 {
				percents = append(percents, percent)
			}
		}
		for _, percent := range percents {
			valid := percent >= 0 && percent <= 100
			if is, ok := impl.IsSamePiece(pair[0], pair[1], percent); ok != valid || is != (valid && percent >= least) {
				t.Fatalf("IsSamePiece(%v, %v, %d) = %v, %v, but the least is %d", pair[0], pair[1], percent, is, ok, least)
			}
		}
	}
	if len(found) < 40 || found[0] < 1000 || found[100] < 10 || found[101] < 1000 {
		t.Errorf("the least are %v", found)
	}
}

// The best shift decides whether a photograph is one of the plan.
func TestBestShiftDecides(t *testing.T) {
	for i, pair := range photoPairs() {
		down, across, suits := impl.BestShift(pair[0], pair[1])
		n, overlap, _ := impl.DifferencesAt(pair[0], pair[1], down, across)
		percent := i % 101
		if is, ok := impl.IsSamePiece(pair[0], pair[1], percent); !ok || is != (suits && n*100 <= percent*overlap) {
			t.Fatalf("IsSamePiece(%v, %v, %d) = %v, %v, but the best shift %d, %d has %d of %d", pair[0], pair[1], percent, is, ok, down, across, n, overlap)
		}
	}
}

func TestSwappedColors(t *testing.T) {
	for _, c := range []struct {
		plan, photo impl.Chart
		want        [][2]int
	}{
		{chartOf("ab", "ba"), chartOf("ab", "bb"), [][2]int{{0, 1}}}, {chartOf("ab", "bb"), chartOf("ab", "ba"), [][2]int{{1, 0}}},
		{chartOf("a"), chartOf("a"), nil}, {chartOf("a"), chartOf("f"), [][2]int{{0, 5}}}, {chartOf("f"), chartOf("a"), [][2]int{{5, 0}}},
		// Each pair once, in both directions if both occur, in lexicographic order.
		{chartOf("aaa"), chartOf("bbb"), [][2]int{{0, 1}}}, {chartOf("ab"), chartOf("ba"), [][2]int{{0, 1}, {1, 0}}}, {chartOf("abab"), chartOf("baba"), [][2]int{{0, 1}, {1, 0}}},
		{chartOf("fedcba"), chartOf("abcdef"), [][2]int{{0, 5}, {1, 4}, {2, 3}, {3, 2}, {4, 1}, {5, 0}}},
		{chartOf("ccc", "aba"), chartOf("fab", "eaa"), [][2]int{{0, 4}, {1, 0}, {2, 0}, {2, 1}, {2, 5}}},
		{chartOf("aaaaaa"), chartOf("fedcba"), [][2]int{{0, 1}, {0, 2}, {0, 3}, {0, 4}, {0, 5}}}, {chartOf("fedcba"), chartOf("cccccc"), [][2]int{{0, 2}, {1, 2}, {3, 2}, {4, 2}, {5, 2}}},
		{chartOf("a", "b", "c"), chartOf("a", "c", "b"), [][2]int{{1, 2}, {2, 1}}},
		// A shift that would leave no differences is not looked for.
		{chartOf("abcd"), chartOf("fabc"), [][2]int{{0, 5}, {1, 0}, {2, 1}, {3, 2}}},
	} {
		if swapped, ok := impl.SwappedColors(c.plan, c.photo); !ok || !slices.Equal(swapped, c.want) {
			t.Errorf("SwappedColors(%v, %v) = %v, %v, not %v", c.plan, c.photo, swapped, ok, c.want)
		}
	}
}

// hasSameSize reports whether two Charts are as wide and as high as each other.
func hasSameSize(a, b impl.Chart) bool { return a.Width == b.Width && a.Height == b.Height }

func TestSwappedColorsByTrial(t *testing.T) {
	same, other := 0, 0
	for _, pair := range photoPairs() {
		var want [][2]int
		valid := hasSameSize(pair[0], pair[1])
		if valid {
			same++
			for i, color := range pair[0].Knots {
				if seen := pair[1].Knots[i]; seen != color {
					want = append(want, [2]int{color, seen})
				}
			}
			slices.SortFunc(want, func(a, b [2]int) int { return slices.Compare(a[:], b[:]) })
			want = slices.Compact(want)
		} else {
			other++
		}
		if swapped, ok := impl.SwappedColors(pair[0], pair[1]); ok != valid || !slices.Equal(swapped, want) {
			t.Fatalf("SwappedColors(%v, %v) = %v, %v, not %v", pair[0], pair[1], swapped, ok, want)
		}
	}
	if same < 1000 || other < 1000 {
		t.Errorf("%d pairs have the same size, and %d not", same, other)
	}
}

func TestShiftPhoto(t *testing.T) {
	square, wide := chartOf("ab", "cd"), chartOf("abcde", "bcdea", "cdeab")
	for _, c := range []struct {
		photo        impl.Chart
		down, across int
		color        int
		want         impl.Chart
	}{
		{square, 0, 1, 5, chartOf("bf", "df")}, {square, 0, -1, 5, chartOf("fa", "fc")}, {square, 1, 0, 5, chartOf("cd", "ff")}, {square, -1, 0, 5, chartOf("ff", "ab")},
		{square, 1, 1, 5, chartOf("df", "ff")}, {square, -1, 1, 5, chartOf("ff", "bf")}, {square, 2, 0, 5, chartOf("ff", "ff")}, {square, 0, 0, 5, square},
		{square, -2, -2, 0, chartOf("aa", "aa")}, {square, 0, 2, 1, chartOf("bb", "bb")}, {chartOf("a"), 0, 0, 3, chartOf("a")}, {chartOf("a"), 1, 0, 3, chartOf("d")}, {chartOf("a"), 0, -1, 0, chartOf("a")},
		{wide, 2, 2, 5, chartOf("eabff", "fffff", "fffff")}, {wide, -2, -2, 5, chartOf("fffff", "fffff", "ffabc")},
		{wide, 2, -2, 5, chartOf("ffcde", "fffff", "fffff")}, {wide, -2, 2, 5, chartOf("fffff", "fffff", "cdeff")}, {wide, -1, 2, 0, chartOf("aaaaa", "cdeaa", "deaaa")},
		{wide, 1, 0, 2, chartOf("bcdea", "cdeab", "ccccc")}, {wide, 0, 2, 4, chartOf("cdeee", "deaee", "eabee")},
	} {
		if shifted, ok := impl.ShiftPhoto(c.photo, c.down, c.across, c.color); !ok || !sameChart(shifted, c.want) {
			t.Errorf("ShiftPhoto(%v, %d, %d, %d) = %v, %v, not %v", c.photo, c.down, c.across, c.color, shifted, ok, c.want)
		}
	}
}

// A photograph of each size after each shift, knot by knot, and compared with itself.
func TestShiftPhotoKnotByKnot(t *testing.T) {
	for seed, photo := range allSizes(6) {
		for i, by := range shiftOrder {
			color := (seed + i) % 6
			shifted, ok := impl.ShiftPhoto(photo, by[0], by[1], color)
			if !ok || !hasSameSize(shifted, photo) || len(shifted.Knots) != len(photo.Knots) {
				t.Fatalf("ShiftPhoto(%v, %v, %d) = %v, %v", photo, by, color, shifted, ok)
			}
			for row := range photo.Height {
				for col := range photo.Width {
					want, has := impl.KnotAt(photo, row+by[0], col+by[1])
					if !has {
						want = color
					}
					if knotIn(shifted, row, col) != want {
						t.Fatalf("ShiftPhoto(%v, %v, %d) = %v, with another color at %d, %d", photo, by, color, shifted, row, col)
					}
				}
			}
			// What was seen there lies in its place now.
			if n, _, ok := impl.DifferencesAt(shifted, photo, by[0], by[1]); !ok || n != 0 {
				t.Fatalf("%v has %d differences from %v for %v", shifted, n, photo, by)
			}
		}
	}
}

// Without a shift, a photograph that was shifted has the differences that it had for the shift before, where it has knots of its own.
func TestShiftedPhotoHasTheSameDifferences(t *testing.T) {
	for seed, plan := range allSizes(8) {
		for _, by := range shiftOrder {
			photo := photoOf(plan, plan.Width, plan.Height, by, 3, seed)
			n, overlap, ok := impl.DifferencesAt(plan, photo, by[0], by[1])
			for color := range 6 {
				shifted, fine := impl.ShiftPhoto(photo, by[0], by[1], color)
				after, all, right := impl.DifferencesAt(plan, shifted, 0, 0)
				added := 0
				for i, knot := range plan.Knots {
					row, col := i/plan.Width+by[0], i%plan.Width+by[1]
					if (row < 0 || col < 0 || row >= plan.Height || col >= plan.Width) && knot != color {
						added++
					}
				}
				if !ok || !fine || !right || after != n+added || all != len(plan.Knots) || overlap > all {
					t.Fatalf("%v and %v have %d differences for %v, but %d after it, %d of them added", plan, photo, n, by, after, added)
				}
			}
		}
	}
}

func TestMergePhotos(t *testing.T) {
	for _, c := range []struct{ a, b, c, want impl.Chart }{
		{chartOf("a"), chartOf("b"), chartOf("b"), chartOf("b")}, {chartOf("b"), chartOf("a"), chartOf("b"), chartOf("b")}, {chartOf("b"), chartOf("b"), chartOf("a"), chartOf("b")},
		{chartOf("b"), chartOf("a"), chartOf("a"), chartOf("a")}, {chartOf("a"), chartOf("b"), chartOf("a"), chartOf("a")}, {chartOf("a"), chartOf("a"), chartOf("b"), chartOf("a")},
		{chartOf("a"), chartOf("b"), chartOf("c"), chartOf("a")}, {chartOf("c"), chartOf("b"), chartOf("a"), chartOf("c")}, {chartOf("b"), chartOf("c"), chartOf("a"), chartOf("b")},
		{chartOf("f"), chartOf("f"), chartOf("f"), chartOf("f")}, {chartOf("f"), chartOf("a"), chartOf("e"), chartOf("f")},
		{chartOf("abc", "def"), chartOf("abf", "aaa"), chartOf("bbf", "dea"), chartOf("abf", "dea")},
		{chartOf("aaa", "aaa"), chartOf("bab", "cab"), chartOf("bbc", "cba"), chartOf("baa", "caa")},
		{chartOf("abcdef"), chartOf("bcdefa"), chartOf("cdefab"), chartOf("abcdef")},
		{chartOf("a", "b", "c"), chartOf("c", "c", "b"), chartOf("c", "b", "b"), chartOf("c", "b", "b")},
	} {
		if merged, ok := impl.MergePhotos(c.a, c.b, c.c); !ok || !sameChart(merged, c.want) {
			t.Errorf("MergePhotos(%v, %v, %v) = %v, %v, not %v", c.a, c.b, c.c, merged, ok, c.want)
		}
	}
}

// All triples of colors, at each place of Charts with all sizes.
func TestMergePhotosOfAllTriples(t *testing.T) {
	for _, size := range allSizes(0) {
		for triple := range 216 {
			a, b, c, want := cloneChart(size), cloneChart(size), cloneChart(size), cloneChart(size)
			for i := range size.Knots {
				n := (triple + i*37) % 216
				colors := [3]int{n / 36, n / 6 % 6, n % 6}
				a.Knots[i], b.Knots[i], c.Knots[i], want.Knots[i] = colors[0], colors[1], colors[2], colors[0]
				for color := range 6 {
					if count := slices.Index(append(colors[:], color), color); count < 3 && slices.Contains(colors[count+1:], color) {
						want.Knots[i] = color
					}
				}
			}
			if merged, ok := impl.MergePhotos(a, b, c); !ok || !sameChart(merged, want) {
				t.Fatalf("MergePhotos(%v, %v, %v) = %v, %v, not %v", a, b, c, merged, ok, want)
			}
		}
	}
}

// Three photographs of a plan, of which no two are wrong at the same knot, together are the plan.
func TestMergedPhotosAreThePlan(t *testing.T) {
	for seed, plan := range allSizes(2) {
		photos := [3]impl.Chart{cloneChart(plan), cloneChart(plan), cloneChart(plan)}
		for i, color := range plan.Knots {
			photos[(i+seed)%3].Knots[i] = (color + 1 + i%5) % 6
		}
		if merged, ok := impl.MergePhotos(photos[0], photos[1], photos[2]); !ok || !sameChart(merged, plan) {
			t.Errorf("MergePhotos(%v) = %v, %v, not %v", photos, merged, ok, plan)
		}
	}
}

// Charts with as many knots, or with one side in common, are not of the same size.
func TestOtherSizesAreRefused(t *testing.T) {
	for width := 1; width <= 8; width++ {
		for height := 1; height <= 8; height++ {
			c := mixedChart(width, height, 1)
			for _, other := range allSizes(1) {
				same := hasSameSize(other, c)
				if swapped, ok := impl.SwappedColors(c, other); ok != same || len(swapped) != 0 {
					t.Errorf("SwappedColors(%v, %v) = %v, %v", c, other, swapped, ok)
				}
				for i, three := range [][3]impl.Chart{{other, c, c}, {c, other, c}, {c, c, other}, {c, other, other}, {other, c, other}, {other, other, c}} {
					if merged, ok := impl.MergePhotos(three[0], three[1], three[2]); ok != same || same && !sameChart(merged, c) || !same && !isNoChart(merged) {
						t.Errorf("MergePhotos of %v, number %d = %v, %v", three, i, merged, ok)
					}
				}
				// The functions with shifts take them.
				if _, _, ok := impl.DifferencesAt(c, other, 2, -2); !ok {
					t.Errorf("DifferencesAt(%v, %v, 2, -2) fails", c, other)
				}
				if _, ok := impl.IsSamePiece(c, other, 50); !ok {
					t.Errorf("IsSamePiece(%v, %v, 50) fails", c, other)
				}
			}
		}
	}
}

// checkShiftRefused calls each function that takes a shift, of whose arguments one is not valid, and checks that all fail.
func checkShiftRefused(t *testing.T, plan, photo impl.Chart, down, across int) {
	t.Helper()
	if n, overlap, ok := impl.DifferencesAt(plan, photo, down, across); ok || n != 0 || overlap != 0 {
		t.Errorf("DifferencesAt(%v, %v, %d, %d) = %d, %d, %v", plan, photo, down, across, n, overlap, ok)
	}
	if wrong, ok := impl.WrongKnots(plan, photo, down, across); ok || len(wrong) != 0 {
		t.Errorf("WrongKnots(%v, %v, %d, %d) = %v, %v", plan, photo, down, across, wrong, ok)
	}
	if rows, ok := impl.WrongRows(plan, photo, down, across); ok || len(rows) != 0 {
		t.Errorf("WrongRows(%v, %v, %d, %d) = %v, %v", plan, photo, down, across, rows, ok)
	}
}

// Shifts of -2..2 are taken, and others are refused, whether there would be an overlap or not.
func TestShiftsAtTheirLimits(t *testing.T) {
	numbers := []int{math.MinInt, math.MinInt + 1, -1 << 62, -1 << 32, -1<<32 - 1, -64, -8, -5, -4, -3, -2, -1, 0, 1, 2, 3, 4, 5, 8, 64, 1 << 32, 1<<32 + 1, 1 << 62, math.MaxInt - 1, math.MaxInt}
	for _, plan := range []impl.Chart{chartOf("a"), chartOf("abc", "def"), mixedChart(8, 8, 5), mixedChart(1, 8, 5)} {
		for _, photo := range []impl.Chart{chartOf("b"), chartOf("bcc", "dff", "abc"), mixedChart(8, 8, 7)} {
			for _, down := range numbers {
				for _, across := range numbers {
					if slices.Contains(shiftOrder, [2]int{down, across}) {
						checkCompared(t, plan, photo, [2]int{down, across}, comparedOnCanvas(plan, photo, [2]int{down, across}))
						if shifted, ok := impl.ShiftPhoto(photo, down, across, 0); !ok || !hasSameSize(shifted, photo) {
							t.Errorf("ShiftPhoto(%v, %d, %d, 0) = %v, %v", photo, down, across, shifted, ok)
						}
						continue
					}
					checkShiftRefused(t, plan, photo, down, across)
					if shifted, ok := impl.ShiftPhoto(photo, down, across, 0); ok || !isNoChart(shifted) {
						t.Errorf("ShiftPhoto(%v, %d, %d, 0) = %v, %v", photo, down, across, shifted, ok)
					}
				}
			}
		}
	}
}

func TestShiftPhotoRefusesColors(t *testing.T) {
	for _, photo := range []impl.Chart{chartOf("a"), chartOf("ab", "cd"), mixedChart(8, 8, 3)} {
		for _, color := range append(oddNumbers(), 4, 1<<32+1) {
			// Without a shift the color is not needed, but must be valid, too.
			for _, by := range shiftOrder {
				shifted, ok := impl.ShiftPhoto(photo, by[0], by[1], color)
				if valid := color >= 0 && color <= 5; ok != valid || !valid && !isNoChart(shifted) {
					t.Errorf("ShiftPhoto(%v, %v, %d) = %v, %v", photo, by, color, shifted, ok)
				}
			}
		}
	}
}

func TestIsSamePieceRefusesPercents(t *testing.T) {
	for _, percent := range append(oddNumbers(), -100, 99, 100, 101, 102, 1000, 1<<32+50) {
		valid := percent >= 0 && percent <= 100
		for _, photo := range []impl.Chart{chartOf("ab", "cd"), mixedChart(8, 8, 3)} {
			if is, ok := impl.IsSamePiece(photo, cloneChart(photo), percent); ok != valid || is != valid {
				t.Errorf("IsSamePiece(%v, the same, %d) = %v, %v", photo, percent, is, ok)
			}
		}
		// Also where no shift suits.
		if is, ok := impl.IsSamePiece(chartOf("abc"), chartOf("c"), percent); ok != valid || is {
			t.Errorf("IsSamePiece for %d percent where no shift suits = %v, %v", percent, is, ok)
		}
	}
}

// checkPhotosRefused calls each function that takes two Charts, of which one is not valid, and checks that all fail.
func checkPhotosRefused(t *testing.T, plan, photo impl.Chart) {
	t.Helper()
	for _, by := range append(shiftOrder, [2]int{3, 0}) {
		checkShiftRefused(t, plan, photo, by[0], by[1])
	}
	if down, across, ok := impl.BestShift(plan, photo); ok || down != 0 || across != 0 {
		t.Errorf("BestShift(%v, %v) = %d, %d, %v", plan, photo, down, across, ok)
	}
	for _, percent := range []int{-1, 0, 50, 100, 101} {
		if is, ok := impl.IsSamePiece(plan, photo, percent); ok || is {
			t.Errorf("IsSamePiece(%v, %v, %d) = %v, %v", plan, photo, percent, is, ok)
		}
	}
	if swapped, ok := impl.SwappedColors(plan, photo); ok || len(swapped) != 0 {
		t.Errorf("SwappedColors(%v, %v) = %v, %v", plan, photo, swapped, ok)
	}
}

func TestCompareFunctionsRefuseInvalidCharts(t *testing.T) {
	bad := invalidCharts()
	for _, c := range allSizes(4) {
		for i := range c.Knots {
			bad = append(bad, impl.Chart{Width: c.Width, Height: c.Height, Knots: withAt(c.Knots, i, 6-i%2*7)})
		}
	}
	for i, c := range bad {
		good := chartOf("ab", "cd")
		if c.Width >= 1 && c.Width <= 8 && c.Height >= 1 && c.Height <= 8 {
			good = mixedChart(c.Width, c.Height, i)
		}
		checkPhotosRefused(t, c, good)
		checkPhotosRefused(t, good, c)
		checkPhotosRefused(t, c, c)
		for _, three := range [][3]impl.Chart{{c, good, good}, {good, c, good}, {good, good, c}, {c, c, good}, {c, good, c}, {good, c, c}, {c, c, c}} {
			if merged, ok := impl.MergePhotos(three[0], three[1], three[2]); ok || !isNoChart(merged) {
				t.Errorf("MergePhotos(%v) = %v, %v", three, merged, ok)
			}
		}
		for _, by := range shiftOrder {
			if shifted, ok := impl.ShiftPhoto(c, by[0], by[1], i%6); ok || !isNoChart(shifted) {
				t.Errorf("ShiftPhoto(%v, %v, %d) = %v, %v", c, by, i%6, shifted, ok)
			}
		}
	}
}

// compareAnswers calls each function of the chapter, and returns all that they return as text.
func compareAnswers(a, b, c impl.Chart, down, across, n int) string {
	count, overlap, okCount := impl.DifferencesAt(a, b, down, across)
	wrong, okWrong := impl.WrongKnots(a, b, down, across)
	bestDown, bestAcross, okBest := impl.BestShift(a, b)
	is, okIs := impl.IsSamePiece(a, b, n)
	rows, okRows := impl.WrongRows(a, b, down, across)
	swapped, okSwapped := impl.SwappedColors(a, b)
	shifted, okShifted := impl.ShiftPhoto(b, down, across, n)
	merged, okMerged := impl.MergePhotos(a, b, c)
	return fmt.Sprint(count, overlap, okCount, wrong, okWrong, bestDown, bestAcross, okBest, is, okIs, rows, okRows, swapped, okSwapped, shifted, okShifted, merged, okMerged)
}

// longChart returns the same Chart with elements beyond the length of its knots, and all of these elements.
func longChart(c impl.Chart, more ...int) (impl.Chart, []int) {
	knots := append(slices.Clone(c.Knots), more...)
	return impl.Chart{Width: c.Width, Height: c.Height, Knots: knots[:len(c.Knots)]}, knots
}

func TestCompareFunctionsChangeNoArgument(t *testing.T) {
	for seed, pair := range photoPairs() {
		by := shiftOrder[seed%25]
		third := mixedChart(pair[0].Width, pair[0].Height, seed)
		a, aKnots := longChart(pair[0], 1, 77, -1)
		b, bKnots := longChart(pair[1], 0, 78, -1)
		c, cKnots := longChart(third, 5, 79, -1)
		text, plain := compareAnswers(a, b, c, by[0], by[1], seed%6), compareAnswers(cloneChart(pair[0]), cloneChart(pair[1]), cloneChart(third), by[0], by[1], seed%6)
		if text != plain {
			t.Fatalf("for %v, %v and %v there is %s, not %s", a, b, by, text, plain)
		}
		if !slices.Equal(aKnots, append(slices.Clone(pair[0].Knots), 1, 77, -1)) || !slices.Equal(bKnots, append(slices.Clone(pair[1].Knots), 0, 78, -1)) || !slices.Equal(cKnots, append(slices.Clone(third.Knots), 5, 79, -1)) {
			t.Fatalf("%v, %v and %v have become %v, %v and %v", pair[0], pair[1], third, aKnots, bKnots, cKnots)
		}
	}
}

// Whatever is written to one result, over all of its memory, neither another one nor an argument changes.
func TestCompareResultsAreSeparate(t *testing.T) {
	for seed, plan := range allSizes(3) {
		photo, third := cloneChart(plan), mixedChart(plan.Width, plan.Height, 11)
		for i := range photo.Knots {
			photo.Knots[i] = (photo.Knots[i] + 1 + i%2) % 6
		}
		givenPlan, givenPhoto, givenThird := cloneChart(plan), cloneChart(photo), cloneChart(third)
		var lists [][]int
		var pairs [][][2]int
		for range 2 {
			rows, _ := impl.WrongRows(plan, photo, 0, 0)
			shifted, _ := impl.ShiftPhoto(photo, 0, 0, seed%6)
			moved, _ := impl.ShiftPhoto(photo, 1, -1, seed%6)
			merged, _ := impl.MergePhotos(plan, photo, third)
			same, _ := impl.MergePhotos(plan, plan, plan)
			lists = append(lists, rows, shifted.Knots, moved.Knots, merged.Knots, same.Knots)
			wrong, _ := impl.WrongKnots(plan, photo, 0, 0)
			swapped, _ := impl.SwappedColors(plan, photo)
			pairs = append(pairs, wrong, swapped)
		}
		for i, list := range lists {
			if len(list) == 0 || len(pairs[i%len(pairs)]) == 0 {
				t.Fatalf("result %d of %v is empty", i, plan)
			}
		}
		checkSeparate(t, lists, -1)
		checkSeparate(t, pairs, [2]int{-1, -1})
		if !sameChart(plan, givenPlan) || !sameChart(photo, givenPhoto) || !sameChart(third, givenThird) {
			t.Fatalf("%v, %v and %v have become %v, %v and %v", givenPlan, givenPhoto, givenThird, plan, photo, third)
		}
	}
}

// Each function returns for odd numbers and Charts, and the same at each call.
func TestCompareFunctionsAreTotal(t *testing.T) {
	charts := append(invalidCharts(), chartOf("a"), chartOf("ab", "cd"), chartOf("abcdefab"), mixedChart(8, 8, 3), mixedChart(8, 8, 4))
	for i, a := range charts {
		for j, b := range charts {
			for k, n := range oddNumbers() {
				c, down, across := charts[(i+j*3+k*5)%len(charts)], oddNumbers()[(i+j*7+k)%len(oddNumbers())], oddNumbers()[(i*3+j+k*11)%len(oddNumbers())]
				if first, second := compareAnswers(a, b, c, down, across, n), compareAnswers(a, b, c, down, across, n); first != second {
					t.Errorf("for %v, %v, %v, %d, %d and %d there is %s, and then %s", a, b, c, down, across, n, first, second)
				}
			}
		}
	}
}

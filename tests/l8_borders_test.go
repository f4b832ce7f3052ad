package tests

import (
	"fmt"
	"math"
	"slices"
	"testing"

	"loop.example/g01023/impl"
)

// ringByWalk returns the colors on a walk along the sides of a Chart that has a ring, which turns right wherever it would leave the Chart.
func ringByWalk(c impl.Chart) []int {
	var ring []int
	row, col, down, right := 0, 0, 0, 1
	for len(ring) == 0 || row != 0 || col != 0 {
		ring = append(ring, knotIn(c, row, col))
		if next := [2]int{row + down, col + right}; next[0] < 0 || next[0] >= c.Height || next[1] < 0 || next[1] >= c.Width {
			down, right = right, -down
		}
		row, col = row+down, col+right
	}
	return ring
}

// isOuter tells whether the knot at a row and a column is one of the outermost ones.
func isOuter(c impl.Chart, row, col int) bool {
	return row == 0 || col == 0 || row == c.Height-1 || col == c.Width-1
}

// ringed returns those Charts that have a ring, and ringless the others.
func ringed(charts []impl.Chart) []impl.Chart {
	return slices.DeleteFunc(slices.Clone(charts), func(c impl.Chart) bool { return c.Width < 2 || c.Height < 2 })
}

func ringless(charts []impl.Chart) []impl.Chart {
	return slices.DeleteFunc(slices.Clone(charts), func(c impl.Chart) bool { return c.Width >= 2 && c.Height >= 2 })
}

// colorsOf returns a list of mixed colors with a length, depending on a seed.
func colorsOf(length, seed int) []int {
	colors := make([]int, length)
	for i := range colors {
		colors[i] = (i*i + i*(seed+2) + seed) % impl.MaxColors
	}
	return colors
}

// patternsOf returns patterns with all lengths: mixed, plain, and plain but for their first or last color.
func patternsOf(seed int) [][]int {
	var patterns [][]int
	for length := 1; length <= 8; length++ {
		plain := slices.Repeat([]int{seed % impl.MaxColors}, length)
		first, last := slices.Clone(plain), slices.Clone(plain)
		first[0], last[length-1] = (seed+1)%impl.MaxColors, (seed+5)%impl.MaxColors
		patterns = append(patterns, colorsOf(length, seed), plain, first, last)
	}
	return patterns
}

// invalidPatterns returns lists that are no patterns; the lengths of some of them divide those of some rings.
func invalidPatterns() [][]int {
	return [][]int{
		nil,
		{},
		make([]int, 0, 4),
		{6},
		{-1},
		{math.MaxInt},
		{math.MinInt},
		{0, 6},
		{-1, 0},
		{0, 1, 2, 6},
		{6, 0, 1, 2},
		{0, 1, -1, 2},
		{0, 1, 2, 3, 4, 5, 0, 6},
		{0, 1, 2, 3, 4, 5, 0, 1, 2},
		{0, 1, 2, 3, 4, 5, 0, 1, 2, 3},
		make([]int, 9),
		make([]int, 10),
		make([]int, 12),
		make([]int, 14),
		make([]int, 28),
	}
}

// borderedByKnots returns a Chart with a pattern around it: the inner knots are those of the Chart, and the walk along the sides finds the pattern again and again.
func borderedByKnots(c impl.Chart, pattern []int) impl.Chart {
	whole := impl.Chart{Width: c.Width + 2, Height: c.Height + 2}
	// The walk over the numbers of the places tells which place comes when.
	places := impl.Chart{Width: whole.Width, Height: whole.Height}
	for i := range whole.Width * whole.Height {
		places.Knots = append(places.Knots, i)
	}
	walk := ringByWalk(places)
	for i := range places.Knots {
		if at := slices.Index(walk, i); at >= 0 {
			whole.Knots = append(whole.Knots, pattern[at%len(pattern)])
		} else {
			whole.Knots = append(whole.Knots, knotIn(c, i/whole.Width-1, i%whole.Width-1))
		}
	}
	return whole
}

func TestRingLength(t *testing.T) {
	for _, c := range []struct{ width, height, want int }{
		{2, 2, 4}, {2, 3, 6}, {3, 2, 6}, {3, 3, 8}, {2, 4, 8}, {4, 3, 10}, {8, 2, 16}, {2, 8, 16}, {8, 7, 26}, {8, 8, 28},
	} {
		if n, ok := impl.RingLength(c.width, c.height); !ok || n != c.want {
			t.Errorf("RingLength(%d, %d) = %d, %v", c.width, c.height, n, ok)
		}
	}
	for _, c := range ringed(allSizes(1)) {
		if n, ok := impl.RingLength(c.Width, c.Height); !ok || n != len(ringByWalk(c)) {
			t.Errorf("RingLength(%d, %d) = %d, %v", c.Width, c.Height, n, ok)
		}
	}
	for _, width := range oddNumbers() {
		for _, height := range oddNumbers() {
			n, ok := impl.RingLength(width, height)
			if want := width >= 2 && width <= 8 && height >= 2 && height <= 8; ok != want || !ok && n != 0 {
				t.Errorf("RingLength(%d, %d) = %d, %v", width, height, n, ok)
			}
		}
	}
}

func TestRingOf(t *testing.T) {
	for _, c := range []struct {
		c    impl.Chart
		want []int
	}{
		{chartOf("ab", "cd"), []int{0, 1, 3, 2}},
		{chartOf("abc", "def"), []int{0, 1, 2, 5, 4, 3}},
		{chartOf("ab", "cd", "ef"), []int{0, 1, 3, 5, 4, 2}},
		{chartOf("abc", "dfe", "cba"), []int{0, 1, 2, 4, 0, 1, 2, 3}},
		{chartOf("abcd", "efff", "abcd"), []int{0, 1, 2, 3, 5, 3, 2, 1, 0, 4}},
		{chartOf("abcdefab", "bbbbbbbc"), []int{0, 1, 2, 3, 4, 5, 0, 1, 2, 1, 1, 1, 1, 1, 1, 1}},
		{chartOf("ab", "fc", "ed", "de"), []int{0, 1, 2, 3, 4, 3, 4, 5}},
	} {
		if ring, ok := impl.RingOf(c.c); !ok || !slices.Equal(ring, c.want) {
			t.Errorf("RingOf(%v) = %v, %v", c.c, ring, ok)
		}
	}
	for _, c := range ringed(slices.Concat(evenCharts(), manySmallCharts())) {
		ring, ok := impl.RingOf(c)
		if !ok || !slices.Equal(ring, ringByWalk(c)) {
			t.Fatalf("RingOf(%v) = %v, %v", c, ring, ok)
		}
		if n, _ := impl.RingLength(c.Width, c.Height); n != len(ring) {
			t.Fatalf("the ring of %v has %d knots, and RingLength is %d", c, len(ring), n)
		}
	}
}

func TestPutRing(t *testing.T) {
	for _, c := range []struct {
		c    impl.Chart
		ring []int
		want impl.Chart
	}{
		{chartOf("aa", "aa"), []int{1, 2, 3, 4}, chartOf("bc", "ed")},
		{chartOf("abc", "def"), []int{0, 0, 0, 1, 1, 2}, chartOf("aaa", "cbb")},
		{chartOf("aaa", "afa", "aaa"), []int{0, 1, 2, 3, 4, 5, 0, 1}, chartOf("abc", "bfd", "afe")},
		{chartOf("aa", "aa", "aa"), []int{1, 2, 3, 4, 5, 0}, chartOf("bc", "ad", "fe")},
	} {
		if changed, ok := impl.PutRing(c.c, c.ring); !ok || !sameChart(changed, c.want) {
			t.Errorf("PutRing(%v, %v) = %v, %v", c.c, c.ring, changed, ok)
		}
	}
	for seed, c := range ringed(evenCharts()) {
		ring := colorsOf(len(ringByWalk(c)), seed)
		changed, ok := impl.PutRing(c, ring)
		if !ok || changed.Width != c.Width || changed.Height != c.Height || !slices.Equal(ringByWalk(changed), ring) {
			t.Fatalf("PutRing(%v, %v) = %v, %v", c, ring, changed, ok)
		}
		for i := range c.Knots {
			if row, col := i/c.Width, i%c.Width; !isOuter(c, row, col) && changed.Knots[i] != c.Knots[i] {
				t.Fatalf("PutRing(%v, %v) = %v changes the knot at %d, %d", c, ring, changed, row, col)
			}
		}
		if back, ok := impl.RingOf(changed); !ok || !slices.Equal(back, ring) {
			t.Fatalf("the ring %v put into %v is %v, %v", ring, c, back, ok)
		}
		own, _ := impl.RingOf(c)
		if same, ok := impl.PutRing(c, own); !ok || !sameChart(same, c) {
			t.Fatalf("%v with its own ring %v is %v, %v", c, own, same, ok)
		}
	}
}

func TestPutRingRefuses(t *testing.T) {
	for _, c := range ringed(allSizes(2)) {
		length := len(ringByWalk(c))
		// A ring is not repeated, so that a part of one does not do, nor does one that is longer.
		for n := range 66 {
			changed, ok := impl.PutRing(c, colorsOf(n, 1))
			if ok != (n == length) || !ok && !isNoChart(changed) {
				t.Fatalf("PutRing(%v, %d colors) = %v, %v", c, n, changed, ok)
			}
		}
		if changed, ok := impl.PutRing(c, nil); ok || !isNoChart(changed) {
			t.Errorf("PutRing(%v, nil) = %v, %v", c, changed, ok)
		}
		for i := range length {
			for _, n := range oddNumbers() {
				ring := colorsOf(length, 3)
				ring[i] = n
				changed, ok := impl.PutRing(c, ring)
				if ok != (n >= 0 && n <= 5) || !ok && !isNoChart(changed) {
					t.Fatalf("PutRing(%v, %v) = %v, %v", c, ring, changed, ok)
				}
			}
		}
	}
}

func TestDoesMeet(t *testing.T) {
	for _, c := range []struct {
		width, height int
		lengths       []int
	}{
		{2, 2, []int{1, 2, 4}},
		{2, 3, []int{1, 2, 3, 6}},
		{3, 3, []int{1, 2, 4, 8}},
		{2, 4, []int{1, 2, 4, 8}},
		{4, 3, []int{1, 2, 5}},
		{4, 4, []int{1, 2, 3, 4, 6}},
		{5, 4, []int{1, 2, 7}},
		{6, 4, []int{1, 2, 4, 8}},
		{8, 7, []int{1, 2}},
		{8, 8, []int{1, 2, 4, 7}},
	} {
		for length := 1; length <= 8; length++ {
			meets, ok := impl.DoesMeet(mixedChart(c.width, c.height, 1), colorsOf(length, 2))
			if !ok || meets != slices.Contains(c.lengths, length) {
				t.Errorf("a pattern of %d meets in the ring of a Chart %d by %d: %v, %v", length, c.width, c.height, meets, ok)
			}
		}
	}
	for _, c := range ringed(allSizes(3)) {
		ring := ringByWalk(c)
		for _, pattern := range patternsOf(4) {
			// One goes around, a pattern at a time, and must come out at the start.
			knots := 0
			for knots < len(ring) {
				knots += len(pattern)
			}
			if meets, ok := impl.DoesMeet(c, pattern); !ok || meets != (knots == len(ring)) {
				t.Errorf("DoesMeet(%v, %v) = %v, %v", c, pattern, meets, ok)
			}
		}
	}
}

// A pattern as long as the ring meets in it, and one that is a knot longer or shorter does not.
func TestPatternAsLongAsTheRing(t *testing.T) {
	for _, c := range []impl.Chart{chartOf("ab", "cd"), chartOf("abc", "def"), chartOf("ab", "cd", "ef"), chartOf("abc", "dfe", "cba"), chartOf("abcd", "efab"), chartOf("ab", "cd", "ef", "ab")} {
		ring := ringByWalk(c)
		if meets, ok := impl.DoesMeet(c, ring); !ok || !meets {
			t.Errorf("DoesMeet(%v, %v) = %v, %v", c, ring, meets, ok)
		}
		if meets, ok := impl.DoesMeet(c, ring[1:]); !ok || meets {
			t.Errorf("DoesMeet(%v, %v) = %v, %v", c, ring[1:], meets, ok)
		}
		// Beyond 8 colors it is no pattern.
		longer := append(slices.Clone(ring), 0)
		if meets, ok := impl.DoesMeet(c, longer); ok != (len(longer) <= 8) || meets {
			t.Errorf("DoesMeet(%v, %v) = %v, %v", c, longer, meets, ok)
		}
	}
	// The smallest border has 8 knots, and a pattern of 8 lies in it once, whatever its colors.
	for _, inner := range smallCharts(1, 1, 6) {
		for seed := range 60 {
			pattern := colorsOf(8, seed)
			bordered, ok := impl.AddBorder(inner, pattern)
			if !ok || !slices.Equal(ringByWalk(bordered), pattern) {
				t.Errorf("AddBorder(%v, %v) = %v, %v", inner, pattern, bordered, ok)
			}
			if put, ok := impl.PutRing(bordered, pattern); !ok || !sameChart(put, bordered) {
				t.Errorf("PutRing(%v, %v) = %v, %v", bordered, pattern, put, ok)
			}
		}
	}
	// A ring of more than 8 knots is never a pattern of one Chart, though it could be put.
	c := mixedChart(4, 3, 1)
	if meets, ok := impl.DoesMeet(c, ringByWalk(c)); ok || meets {
		t.Errorf("DoesMeet(%v, its ring) = %v, %v", c, meets, ok)
	}
	if bordered, ok := impl.AddBorder(chartOf("ab"), colorsOf(10, 1)); ok || !isNoChart(bordered) {
		t.Errorf("a border with a pattern of 10 is %v, %v", bordered, ok)
	}
	// A pattern that is longer than the ring is cut.
	for length := 5; length <= 8; length++ {
		if meets, ok := impl.DoesMeet(chartOf("ab", "cd"), colorsOf(length, 2)); !ok || meets {
			t.Errorf("a pattern of %d meets in a ring of 4: %v, %v", length, meets, ok)
		}
	}
}

func TestAddBorder(t *testing.T) {
	for _, c := range []struct {
		c       impl.Chart
		pattern []int
		want    impl.Chart
	}{
		{chartOf("a"), []int{1}, chartOf("bbb", "bab", "bbb")},
		{chartOf("a"), []int{1, 2}, chartOf("bcb", "cac", "bcb")},
		{chartOf("a"), []int{1, 2, 3, 4}, chartOf("bcd", "eae", "dcb")},
		{chartOf("f"), []int{0, 1, 2, 3, 4, 5, 0, 1}, chartOf("abc", "bfd", "afe")},
		{chartOf("ab"), []int{0, 1, 2, 3, 4}, chartOf("abcd", "eabe", "dcba")},
		{chartOf("a", "b"), []int{0, 1, 2, 3, 4}, chartOf("abc", "ead", "dbe", "cba")},
		{chartOf("ff", "ff"), []int{0, 1, 2}, chartOf("abca", "cffb", "bffc", "acba")},
		{chartOf("ff", "ff"), []int{0, 1, 2, 3, 4, 5}, chartOf("abcd", "fffe", "efff", "dcba")},
	} {
		if bordered, ok := impl.AddBorder(c.c, c.pattern); !ok || !sameChart(bordered, c.want) {
			t.Errorf("AddBorder(%v, %v) = %v, %v", c.c, c.pattern, bordered, ok)
		}
	}
}

// Sides of 6 become those of 8; those of 7 and 8 are too great, as is a pattern that is cut.
func TestAddBorderByKnots(t *testing.T) {
	for _, c := range append(allSizes(1), allSizes(5)...) {
		for seed := range 3 {
			for _, pattern := range patternsOf(seed) {
				bordered, ok := impl.AddBorder(c, pattern)
				around := 2*c.Width + 2*c.Height + 4
				if c.Width > 6 || c.Height > 6 || around%len(pattern) != 0 {
					if ok || !isNoChart(bordered) {
						t.Fatalf("AddBorder(%v, %v) = %v, %v", c, pattern, bordered, ok)
					}
					continue
				}
				if !ok || !sameChart(bordered, borderedByKnots(c, pattern)) {
					t.Fatalf("AddBorder(%v, %v) = %v, %v", c, pattern, bordered, ok)
				}
				if meets, ok := impl.DoesMeet(bordered, pattern); !ok || !meets {
					t.Fatalf("DoesMeet(%v, %v) = %v, %v", bordered, pattern, meets, ok)
				}
				if !impl.IsChart(bordered) {
					t.Fatalf("%v is no Chart", bordered)
				}
			}
		}
	}
}

// The pattern meets in the ring that is added, not in the one of the Chart.
func TestAddBorderMeetsOutside(t *testing.T) {
	// Around 2 by 2 there are 12 knots, and in its ring 4.
	if _, ok := impl.AddBorder(chartOf("ab", "cd"), []int{0, 1, 2}); !ok {
		t.Error("3 divide 12")
	}
	// Around 3 by 3 there are 16 knots, and around 2 by 3 there are 14.
	if _, ok := impl.AddBorder(chartOf("abc", "def", "abc"), colorsOf(8, 1)); !ok {
		t.Error("8 divide 16")
	}
	if bordered, ok := impl.AddBorder(chartOf("ab", "cd", "ef"), colorsOf(3, 1)); ok || !isNoChart(bordered) {
		t.Error("3 divide 6, but not 14", bordered)
	}
	if bordered, ok := impl.AddBorder(chartOf("ab", "cd", "ef"), colorsOf(6, 1)); ok || !isNoChart(bordered) {
		t.Error("6 divide 6, but not 14", bordered)
	}
	if _, ok := impl.AddBorder(chartOf("ab", "cd", "ef"), colorsOf(7, 1)); !ok {
		t.Error("7 divide 14")
	}
}

// Promise 8: a border that is added and stripped changes nothing.
func TestBorderAddedAndStrippedChangesNothing(t *testing.T) {
	added := 0
	for seed, c := range slices.Concat(evenCharts(), manySmallCharts()) {
		given := cloneChart(c)
		for _, pattern := range patternsOf(seed) {
			bordered, ok := impl.AddBorder(c, pattern)
			if !ok {
				continue
			}
			added++
			stripped, ok := impl.StripBorder(bordered)
			if !ok || !sameChart(stripped, given) || !sameChart(c, given) {
				t.Fatalf("%v with the border %v, %v, stripped, is %v, %v", given, pattern, bordered, stripped, ok)
			}
		}
		// The pattern of a single color always meets.
		if _, ok := impl.AddBorder(c, []int{seed % 6}); ok != (c.Width <= 6 && c.Height <= 6) {
			t.Fatalf("%v has a border of one color: %v", c, ok)
		}
	}
	if added == 0 {
		t.Error("no border was added")
	}
}

// Borders that are added one after the other and stripped in the other order leave what there was after each.
func TestManyBordersAddedAndStripped(t *testing.T) {
	for _, c := range allSizes(6) {
		layers := []impl.Chart{c}
		for n := 0; ; n++ {
			inner := layers[len(layers)-1]
			bordered, ok := impl.AddBorder(inner, colorsOf(n%2+1, n))
			if !ok {
				break
			}
			layers = append(layers, bordered)
		}
		if want := max(0, (8-max(c.Width, c.Height))/2) + 1; len(layers) != want {
			t.Errorf("%v and what it becomes with borders are %d Charts, not %d", c, len(layers), want)
		}
		outer := layers[len(layers)-1]
		for i := len(layers) - 2; i >= 0; i-- {
			stripped, ok := impl.StripBorder(outer)
			if !ok || !sameChart(stripped, layers[i]) {
				t.Fatalf("%v, stripped, is %v, %v, not %v", outer, stripped, ok, layers[i])
			}
			outer = stripped
		}
	}
}

func TestStripBorder(t *testing.T) {
	for _, c := range []struct{ c, want impl.Chart }{
		{chartOf("abc", "def", "abc"), chartOf("e")},
		{chartOf("abcd", "efab", "cdef"), chartOf("fa")},
		{chartOf("abc", "def", "abc", "def"), chartOf("e", "b")},
		{chartOf("abcdefab", "bcdefabc", "cdefabcd"), chartOf("cdefab")},
		{chartOf("abcde", "bcdef", "cdefa", "defab", "efabc"), chartOf("cde", "def", "efa")},
	} {
		if stripped, ok := impl.StripBorder(c.c); !ok || !sameChart(stripped, c.want) {
			t.Errorf("StripBorder(%v) = %v, %v", c.c, stripped, ok)
		}
	}
	for _, c := range append(allSizes(2), allSizes(7)...) {
		stripped, ok := impl.StripBorder(c)
		if c.Width < 3 || c.Height < 3 {
			if ok || !isNoChart(stripped) {
				t.Errorf("StripBorder(%v) = %v, %v", c, stripped, ok)
			}
			continue
		}
		want := impl.Chart{Width: c.Width - 2, Height: c.Height - 2}
		for i, color := range c.Knots {
			if !isOuter(c, i/c.Width, i%c.Width) {
				want.Knots = append(want.Knots, color)
			}
		}
		if !ok || !sameChart(stripped, want) {
			t.Errorf("StripBorder(%v) = %v, %v", c, stripped, ok)
		}
	}
}

// What StripBorder takes away comes back with the shortest pattern of the ring, if it is short enough.
func TestStrippedBorderAddedAgain(t *testing.T) {
	again := 0
	for _, c := range slices.Concat(evenCharts(), tiledCharts(), smallCharts(3, 3, 2)) {
		stripped, ok := impl.StripBorder(c)
		if !ok {
			continue
		}
		ring, _ := impl.RingOf(c)
		period, _ := impl.RingPeriod(c)
		if period > 8 {
			continue
		}
		again++
		if bordered, ok := impl.AddBorder(stripped, ring[:period]); !ok || !sameChart(bordered, c) {
			t.Fatalf("%v without and with its ring %v is %v, %v", c, ring, bordered, ok)
		}
	}
	if again == 0 {
		t.Error("no border was added again")
	}
}

// periodByTurns returns the smallest number of places by which a ring may be turned so that it is the same, and which divides its length.
func periodByTurns(ring []int) int {
	for p := 1; ; p++ {
		if len(ring)%p == 0 && slices.Equal(append(slices.Clone(ring[p:]), ring[:p]...), ring) {
			return p
		}
	}
}

func TestRingPeriod(t *testing.T) {
	for _, c := range []struct {
		c    impl.Chart
		want int
	}{
		{chartOf("aa", "aa"), 1},
		{chartOf("ab", "ba"), 2},
		{chartOf("ab", "dc"), 4},
		{chartOf("aa", "bb"), 4},
		{chartOf("ab", "aa"), 4},
		{chartOf("bcb", "cac", "bcb"), 2},
		{chartOf("aaa", "aba", "aaa"), 1},
		{chartOf("abc", "bfd", "afe"), 8},
		{chartOf("bcd", "eae", "dcb"), 4},
		// The ring of 6 is abcabc, ababab, aabaab and abcdab, of which the last one would be cut.
		{chartOf("abc", "cba"), 3},
		{chartOf("aba", "bab"), 2},
		{chartOf("aab", "baa"), 3},
		{chartOf("abc", "bad"), 6},
		// The ring of 4 is abca, which has the period 3 only along the list.
		{chartOf("ab", "ac"), 4},
		// The ring of 8 is abcabcab.
		{chartOf("abc", "bfa", "acb"), 8},
		{chartOf("aaaaaaaa", "aaaaaaaa"), 1},
		{chartOf("aaaaaaaa", "aaaaaaab"), 16},
		{chartOf("abca", "cffb", "bffc", "acba"), 3},
		// In 12 knots, 4 and 6 are periods of abababababab, too, and 2 is the smallest one; in the other one only 6 is.
		{chartOf("abab", "bffa", "affb", "baba"), 2},
		{chartOf("abcd", "fffe", "efff", "dcba"), 6},
	} {
		if p, ok := impl.RingPeriod(c.c); !ok || p != c.want {
			t.Errorf("RingPeriod(%v) = %d, %v", c.c, p, ok)
		}
	}
	for _, c := range ringed(slices.Concat(tiledCharts(), evenCharts(), manySmallCharts())) {
		if p, ok := impl.RingPeriod(c); !ok || p != periodByTurns(ringByWalk(c)) {
			t.Fatalf("RingPeriod(%v) = %d, %v", c, p, ok)
		}
	}
}

// The period of a ring that is a pattern is the smallest one of the pattern that divides its length.
func TestRingPeriodOfBorders(t *testing.T) {
	for seed, c := range allSizes(3) {
		for _, pattern := range patternsOf(seed) {
			if bordered, ok := impl.AddBorder(c, pattern); ok {
				if p, ok := impl.RingPeriod(bordered); !ok || p != periodByTurns(pattern) {
					t.Fatalf("RingPeriod(%v) = %d, %v with the pattern %v", bordered, p, ok, pattern)
				}
			}
		}
	}
}

func TestNearestMeeting(t *testing.T) {
	for _, c := range []struct{ width, height, length, wantWidth, wantHeight int }{
		{4, 4, 5, 3, 4},
		{8, 8, 7, 8, 8},
		{2, 2, 4, 2, 2},
		// Of several at the same distance, that with the smallest width is taken.
		{2, 2, 7, 2, 7},
		{2, 2, 5, 2, 5},
		{2, 2, 8, 2, 4},
		{8, 8, 8, 6, 8},
		{8, 8, 5, 4, 8},
		{6, 6, 7, 3, 6},
		{6, 6, 8, 4, 6},
		{5, 5, 3, 5, 6},
		{7, 7, 7, 8, 8},
		// The nearest size may lie beyond the limits.
		{2, 8, 3, 3, 8},
		{8, 2, 3, 8, 3},
		// With the same width, that with the smallest height is taken.
		{2, 3, 4, 2, 2},
		{2, 5, 4, 2, 4},
		{2, 7, 4, 2, 6},
	} {
		if w, h, ok := impl.NearestMeeting(c.width, c.height, c.length); !ok || w != c.wantWidth || h != c.wantHeight {
			t.Errorf("NearestMeeting(%d, %d, %d) = %d, %d, %v", c.width, c.height, c.length, w, h, ok)
		}
	}
}

// nearestBySearch goes through the distances from 0 on, and for each one through the widths and the heights.
func nearestBySearch(width, height, length int) (int, int) {
	for away := 0; ; away++ {
		for w := 2; w <= 8; w++ {
			for h := 2; h <= 8; h++ {
				if max(w-width, width-w)+max(h-height, height-h) == away && len(ringByWalk(mixedChart(w, h, 1)))%length == 0 {
					return w, h
				}
			}
		}
	}
}

func TestNearestMeetingBySearch(t *testing.T) {
	for width := 2; width <= 8; width++ {
		for height := 2; height <= 8; height++ {
			for length := 1; length <= 8; length++ {
				wantWidth, wantHeight := nearestBySearch(width, height, length)
				w, h, ok := impl.NearestMeeting(width, height, length)
				if !ok || w != wantWidth || h != wantHeight {
					t.Errorf("NearestMeeting(%d, %d, %d) = %d, %d, %v", width, height, length, w, h, ok)
				}
				meets, ok := impl.DoesMeet(mixedChart(width, height, 1), colorsOf(length, 1))
				if !ok || meets != (w == width && h == height) {
					t.Errorf("a pattern of %d meets in %d by %d: %v, %v, but %d by %d is nearest", length, width, height, meets, ok, w, h)
				}
			}
		}
	}
}

func TestNearestMeetingRefuses(t *testing.T) {
	for _, width := range append(oddNumbers(), 4) {
		for _, height := range append(oddNumbers(), 4) {
			for _, length := range append(oddNumbers(), 4, 10, 28) {
				w, h, ok := impl.NearestMeeting(width, height, length)
				valid := width >= 2 && width <= 8 && height >= 2 && height <= 8 && length >= 1 && length <= 8
				if ok != valid || !ok && (w != 0 || h != 0) {
					t.Errorf("NearestMeeting(%d, %d, %d) = %d, %d, %v", width, height, length, w, h, ok)
				}
			}
		}
	}
}

func TestCornersOf(t *testing.T) {
	for _, c := range []struct {
		c    impl.Chart
		want []int
	}{
		{chartOf("ab", "cd"), []int{0, 1, 3, 2}},
		{chartOf("abc", "def"), []int{0, 2, 5, 3}},
		{chartOf("ab", "cd", "ef"), []int{0, 1, 5, 4}},
		{chartOf("bcb", "cac", "bcb"), []int{1, 1, 1, 1}},
		{chartOf("abcdefab", "ffffffff", "cffffffe"), []int{0, 1, 4, 2}},
	} {
		if corners, ok := impl.CornersOf(c.c); !ok || !slices.Equal(corners, c.want) {
			t.Errorf("CornersOf(%v) = %v, %v", c.c, corners, ok)
		}
	}
	for _, c := range ringed(append(evenCharts(), allSizes(9)...)) {
		down, right := c.Height-1, c.Width-1
		want := []int{knotIn(c, 0, 0), knotIn(c, 0, right), knotIn(c, down, right), knotIn(c, down, 0)}
		if corners, ok := impl.CornersOf(c); !ok || !slices.Equal(corners, want) {
			t.Fatalf("CornersOf(%v) = %v, %v", c, corners, ok)
		}
	}
}

// checkRingRefused checks that the functions that take a ring refuse a Chart.
func checkRingRefused(t *testing.T, c impl.Chart) {
	t.Helper()
	ring, one := impl.RingOf(c)
	corners, two := impl.CornersOf(c)
	period, three := impl.RingPeriod(c)
	stripped, four := impl.StripBorder(c)
	if one || two || three || four || len(ring) != 0 || len(corners) != 0 || period != 0 || !isNoChart(stripped) {
		t.Errorf("%v has the ring %v, %v, the corners %v, %v, the period %d, %v and within it %v, %v", c, ring, one, corners, two, period, three, stripped, four)
	}
	for _, list := range append(append(patternsOf(1), invalidPatterns()...), c.Knots) {
		if meets, ok := impl.DoesMeet(c, list); ok || meets {
			t.Errorf("DoesMeet(%v, %v) = %v, %v", c, list, meets, ok)
		}
		if changed, ok := impl.PutRing(c, list); ok || !isNoChart(changed) {
			t.Errorf("PutRing(%v, %v) = %v, %v", c, list, changed, ok)
		}
	}
}

func TestBorderFunctionsRefuseInvalidCharts(t *testing.T) {
	for _, bad := range invalidCharts() {
		checkRingRefused(t, bad)
		for _, pattern := range append(patternsOf(1), invalidPatterns()...) {
			if bordered, ok := impl.AddBorder(bad, pattern); ok || !isNoChart(bordered) {
				t.Errorf("AddBorder(%v, %v) = %v, %v", bad, pattern, bordered, ok)
			}
		}
	}
	// Each knot of a Chart is checked, those of the ring and those within it.
	for _, c := range allSizes(4) {
		for i := range c.Knots {
			bad := cloneChart(c)
			bad.Knots[i] = 6 - i%2*7
			checkRingRefused(t, bad)
			if bordered, ok := impl.AddBorder(bad, []int{0}); ok || !isNoChart(bordered) {
				t.Errorf("AddBorder(%v, [0]) = %v, %v", bad, bordered, ok)
			}
		}
	}
}

// Charts with a side of 1 have no ring, but may get one.
func TestChartsWithoutRing(t *testing.T) {
	charts := ringless(allSizes(5))
	if len(charts) != 15 {
		t.Errorf("%d sizes without a ring", len(charts))
	}
	for _, c := range charts {
		checkRingRefused(t, c)
		bordered, ok := impl.AddBorder(c, []int{2, 4})
		if fits := c.Width <= 6 && c.Height <= 6; ok != fits {
			t.Errorf("AddBorder(%v, [2 4]) = %v, %v", c, bordered, ok)
		} else if ok && !sameChart(bordered, borderedByKnots(c, []int{2, 4})) {
			t.Errorf("AddBorder(%v, [2 4]) = %v, %v", c, bordered, ok)
		}
	}
}

func TestBorderFunctionsRefuseInvalidPatterns(t *testing.T) {
	for _, pattern := range invalidPatterns() {
		for _, c := range allSizes(6) {
			if meets, ok := impl.DoesMeet(c, pattern); ok || meets {
				t.Errorf("DoesMeet(%v, %v) = %v, %v", c, pattern, meets, ok)
			}
			if bordered, ok := impl.AddBorder(c, pattern); ok || !isNoChart(bordered) {
				t.Errorf("AddBorder(%v, %v) = %v, %v", c, pattern, bordered, ok)
			}
		}
	}
	for length := 1; length <= 8; length++ {
		for i := range length {
			for _, n := range oddNumbers() {
				pattern := colorsOf(length, 1)
				pattern[i] = n
				valid := n >= 0 && n <= 5
				if meets, ok := impl.DoesMeet(mixedChart(8, 8, 1), pattern); ok != valid || !ok && meets {
					t.Errorf("DoesMeet(.., %v) = %v, %v", pattern, meets, ok)
				}
				bordered, ok := impl.AddBorder(chartOf("f"), pattern)
				if ok != (valid && 8%length == 0) || !ok && !isNoChart(bordered) {
					t.Errorf("AddBorder(f, %v) = %v, %v", pattern, bordered, ok)
				}
			}
		}
	}
}

// borderResults calls each function that returns a list or a Chart, and returns all lists.
func borderResults(c impl.Chart, ring, pattern []int) [][]int {
	own, _ := impl.RingOf(c)
	corners, _ := impl.CornersOf(c)
	put, _ := impl.PutRing(c, ring)
	bordered, _ := impl.AddBorder(c, pattern)
	stripped, _ := impl.StripBorder(c)
	return [][]int{own, corners, put.Knots, bordered.Knots, stripped.Knots}
}

func TestBorderFunctionsChangeNoArgument(t *testing.T) {
	for seed, c := range evenCharts() {
		for _, short := range patternsOf(seed) {
			// What lies beyond the length of a slice stays as it is, too, and comes into no result.
			long := append(slices.Clone(c.Knots), 77, 78, 79)
			around := colorsOf(max(2*(c.Width+c.Height-2), 1), seed)
			ring := append(slices.Clone(around), 87, 88, 89)
			pattern := append(slices.Clone(short), slices.Repeat([]int{97}, 40)...)
			given, givenRing, givenPattern := slices.Clone(long), slices.Clone(ring), slices.Clone(pattern)
			chart := impl.Chart{Width: c.Width, Height: c.Height, Knots: long[:len(c.Knots)]}
			for i, list := range borderResults(chart, ring[:len(around)], pattern[:len(short)]) {
				if len(list) > 0 && slices.Max(list) > 5 {
					t.Errorf("result %d of %v is %v", i, c, list)
				}
			}
			impl.RingPeriod(chart)
			impl.DoesMeet(chart, pattern[:len(short)])
			if !slices.Equal(long, given) || !slices.Equal(ring, givenRing) || !slices.Equal(pattern, givenPattern) {
				t.Fatalf("%v, %v and %v have become %v, %v and %v", given, givenRing, givenPattern, long, ring, pattern)
			}
		}
	}
}

// A ring or a pattern may be a part of the knots of the Chart itself.
func TestRingWithinTheKnots(t *testing.T) {
	c := chartOf("abcd", "efab", "cdef")
	for _, length := range []int{1, 2, 3, 6} {
		given := cloneChart(c)
		want := borderedByKnots(given, given.Knots[2:2+length])
		if bordered, ok := impl.AddBorder(c, c.Knots[2:2+length]); !ok || !sameChart(bordered, want) || !sameChart(c, given) {
			t.Errorf("AddBorder(%v, %v) = %v, %v", given, given.Knots[2:2+length], bordered, ok)
		}
	}
	changed, ok := impl.PutRing(c, c.Knots[1:11])
	if want := chartOf("bcde", "efaf", "dcba"); !ok || !sameChart(changed, want) {
		t.Errorf("PutRing(%v, %v) = %v, %v", c, c.Knots[1:11], changed, ok)
	}
}

// Whatever is written to one result, over all of its memory, neither another one nor an argument changes.
func TestBorderResultsAreSeparate(t *testing.T) {
	for seed, c := range evenCharts() {
		given := cloneChart(c)
		ring, pattern := colorsOf(max(2*(c.Width+c.Height-2), 1), seed), colorsOf(seed%2+1, seed)
		givenRing, givenPattern := slices.Clone(ring), slices.Clone(pattern)
		results := append(borderResults(c, ring, pattern), borderResults(c, ring, pattern)...)
		checkSeparate(t, results, -1)
		if !sameChart(c, given) || !slices.Equal(ring, givenRing) || !slices.Equal(pattern, givenPattern) {
			t.Errorf("%v, %v and %v have become %v, %v and %v", given, givenRing, givenPattern, c, ring, pattern)
		}
	}
}

// borderAnswers calls each function of the chapter, and returns all that they return as text.
func borderAnswers(c impl.Chart, list []int, a, b, n int) string {
	length, ok := impl.RingLength(a, b)
	text := fmt.Sprint(length, ok)
	width, height, ok := impl.NearestMeeting(a, b, n)
	text += fmt.Sprint(width, height, ok)
	period, ok := impl.RingPeriod(c)
	meets, fine := impl.DoesMeet(c, list)
	return text + fmt.Sprint(period, ok, meets, fine, borderResults(c, list, list))
}

// Each function returns for odd numbers, Charts and lists, and the same at each call.
func TestBorderFunctionsAreTotal(t *testing.T) {
	charts := append(invalidCharts(), chartOf("a"), chartOf("ab"), chartOf("ab", "cd"), mixedChart(3, 3, 1), mixedChart(6, 6, 2), mixedChart(8, 8, 3))
	lists := append(invalidPatterns(), patternsOf(1)...)
	for i, a := range oddNumbers() {
		for j, b := range oddNumbers() {
			for k, c := range charts {
				list, n := lists[(i+j*3+k)%len(lists)], oddNumbers()[(i*5+j+k)%len(oddNumbers())]
				if first, second := borderAnswers(c, list, a, b, n), borderAnswers(c, list, a, b, n); first != second {
					t.Errorf("for %v, %v, %d, %d and %d there is %s, and then %s", c, list, a, b, n, first, second)
				}
			}
		}
	}
}

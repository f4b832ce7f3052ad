package tests

import (
	"fmt"
	"math"
	"slices"
	"testing"

	"loop.example/g01023/impl"
)

// knotIn returns the color at a row and a column of a Chart.
func knotIn(c impl.Chart, row, col int) int { return c.Knots[row*c.Width+col] }

// tiledChart returns the Chart with a size that is cut from endless copies of a motif, from the first knot of one on.
func tiledChart(motif impl.Chart, width, height int) impl.Chart {
	c := impl.Chart{Width: width, Height: height}
	for row := range height {
		for col := range width {
			c.Knots = append(c.Knots, knotIn(motif, row%motif.Height, col%motif.Width))
		}
	}
	return c
}

// tiledCharts returns Charts of all sizes cut from copies of small motifs; the motif's sides divide those of some.
func tiledCharts() []impl.Chart {
	var charts []impl.Chart
	for motifWidth := range 5 {
		for motifHeight := range 5 {
			motif := mixedChart(motifWidth+1, motifHeight+1, 2)
			for _, c := range allSizes(0) {
				charts = append(charts, tiledChart(motif, c.Width, c.Height))
			}
		}
	}
	return charts
}

// manyMotifs returns small Charts and Charts of all sizes, with all kinds of symmetries and without.
func manyMotifs() []impl.Chart {
	return slices.Concat(evenCharts(), smallCharts(2, 2, 3), smallCharts(3, 1, 3), smallCharts(1, 3, 3), smallCharts(3, 2, 2), smallCharts(2, 3, 2))
}

// numbersOfCopies returns numbers about the limits, and such for which a product with a side overflows to a valid one.
func numbersOfCopies() []int {
	return append(oddNumbers(), 4, 10, -3, -8, 1<<61+1, 1<<62+1, 1<<62+2, 1<<62+4, -1<<62+1, -1<<61+1, math.MinInt+2, math.MinInt+8)
}

func TestRepeatMotif(t *testing.T) {
	for _, c := range []struct {
		motif        impl.Chart
		across, down int
		want         impl.Chart
	}{
		{chartOf("ab"), 2, 2, chartOf("abab", "abab")},
		{chartOf("ab"), 1, 1, chartOf("ab")},
		{chartOf("ab"), 3, 1, chartOf("ababab")},
		{chartOf("ab"), 1, 3, chartOf("ab", "ab", "ab")},
		{chartOf("ab", "cd"), 2, 1, chartOf("abab", "cdcd")},
		{chartOf("ab", "cd"), 1, 2, chartOf("ab", "cd", "ab", "cd")},
		{chartOf("abc", "def"), 2, 2, chartOf("abcabc", "defdef", "abcabc", "defdef")},
		{chartOf("a", "f"), 3, 2, chartOf("aaa", "fff", "aaa", "fff")},
		{chartOf("ab"), 4, 1, chartOf("abababab")},
		{chartOf("a", "b"), 1, 4, chartOf("a", "b", "a", "b", "a", "b", "a", "b")},
		{chartOf("f"), 8, 1, chartOf("ffffffff")},
	} {
		if repeated, ok := impl.RepeatMotif(c.motif, c.across, c.down); !ok || !sameChart(repeated, c.want) {
			t.Errorf("RepeatMotif(%v, %d, %d) = %v, %v", c.motif, c.across, c.down, repeated, ok)
		}
	}
	for _, motif := range allSizes(1) {
		for across := -2; across <= 17; across++ {
			for down := -2; down <= 17; down++ {
				repeated, ok := impl.RepeatMotif(motif, across, down)
				fits := across >= 1 && down >= 1 && motif.Width*across <= 8 && motif.Height*down <= 8
				if !fits && (ok || !isNoChart(repeated)) {
					t.Fatalf("RepeatMotif(%v, %d, %d) = %v, %v", motif, across, down, repeated, ok)
				}
				if fits && (!ok || !sameChart(repeated, tiledChart(motif, motif.Width*across, motif.Height*down))) {
					t.Fatalf("RepeatMotif(%v, %d, %d) = %v, %v", motif, across, down, repeated, ok)
				}
			}
		}
	}
}

func TestRepeatMotifRefusesNumbers(t *testing.T) {
	for _, motif := range allSizes(2) {
		for _, n := range numbersOfCopies() {
			wide, ok := impl.RepeatMotif(motif, n, 1)
			if fits := n >= 1 && n <= 8/motif.Width; ok != fits || !ok && !isNoChart(wide) {
				t.Errorf("RepeatMotif(%v, %d, 1) = %v, %v", motif, n, wide, ok)
			}
			high, ok := impl.RepeatMotif(motif, 1, n)
			if fits := n >= 1 && n <= 8/motif.Height; ok != fits || !ok && !isNoChart(high) {
				t.Errorf("RepeatMotif(%v, 1, %d) = %v, %v", motif, n, high, ok)
			}
			if both, ok := impl.RepeatMotif(motif, n, n); ok && (n < 1 || n > 8) || !ok && !isNoChart(both) {
				t.Errorf("RepeatMotif(%v, %d, %d) = %v, %v", motif, n, n, both, ok)
			}
		}
	}
}

// Promise 6: a repeated motif occurs at each of its copies.
func TestRepeatedMotifOccursAtEachCopy(t *testing.T) {
	for _, motif := range manyMotifs() {
		for across := 1; across <= 8/motif.Width; across++ {
			for down := 1; down <= 8/motif.Height; down++ {
				repeated, ok := impl.RepeatMotif(motif, across, down)
				if !ok || repeated.Width != motif.Width*across || repeated.Height != motif.Height*down {
					t.Fatalf("RepeatMotif(%v, %d, %d) = %v, %v", motif, across, down, repeated, ok)
				}
				places, ok := impl.PlacesOf(repeated, motif)
				if !ok || len(places) < across*down {
					t.Fatalf("PlacesOf(%v, %v) = %v, %v", repeated, motif, places, ok)
				}
				for i := range down {
					for j := range across {
						place := [2]int{i * motif.Height, j * motif.Width}
						if !slices.Contains(places, place) {
							t.Fatalf("%v does not occur at %v of %v", motif, place, repeated)
						}
						if part, ok := impl.PartOf(repeated, place[0], place[1], motif.Height, motif.Width); !ok || !sameChart(part, motif) {
							t.Fatalf("at %v of %v there is %v, not %v", place, repeated, part, motif)
						}
					}
				}
				if n, ok := impl.AnyWayPlaces(repeated, motif); !ok || n < len(places) {
					t.Fatalf("AnyWayPlaces(%v, %v) = %d, %v", repeated, motif, n, ok)
				}
			}
		}
	}
}

func TestMirrorRepeat(t *testing.T) {
	for _, c := range []struct {
		motif  impl.Chart
		across int
		want   impl.Chart
	}{
		{chartOf("ab"), 1, chartOf("ab")},
		{chartOf("ab"), 2, chartOf("abba")},
		{chartOf("ab"), 3, chartOf("abbaab")},
		{chartOf("ab"), 4, chartOf("abbaabba")},
		{chartOf("abc", "def"), 2, chartOf("abccba", "deffed")},
		{chartOf("abcd"), 2, chartOf("abcddcba")},
		{chartOf("a", "b"), 3, chartOf("aaa", "bbb")},
		{chartOf("f"), 8, chartOf("ffffffff")},
	} {
		if repeated, ok := impl.MirrorRepeat(c.motif, c.across); !ok || !sameChart(repeated, c.want) {
			t.Errorf("MirrorRepeat(%v, %d) = %v, %v", c.motif, c.across, repeated, ok)
		}
	}
	for _, motif := range allSizes(3) {
		for _, across := range append(numbersOfCopies(), 11, 12, 13, 14, 15, 16, 17) {
			repeated, ok := impl.MirrorRepeat(motif, across)
			if across < 1 || across > 8/motif.Width {
				if ok || !isNoChart(repeated) {
					t.Errorf("MirrorRepeat(%v, %d) = %v, %v", motif, across, repeated, ok)
				}
				continue
			}
			want := impl.Chart{Width: motif.Width * across, Height: motif.Height}
			for row := range motif.Height {
				for i := range want.Width {
					col := i % motif.Width
					if i/motif.Width%2 == 1 {
						col = motif.Width - 1 - col
					}
					want.Knots = append(want.Knots, knotIn(motif, row, col))
				}
			}
			if !ok || !sameChart(repeated, want) {
				t.Errorf("MirrorRepeat(%v, %d) = %v, %v", motif, across, repeated, ok)
			}
		}
	}
}

func TestHalfDrop(t *testing.T) {
	for _, c := range []struct{ motif, want impl.Chart }{
		{chartOf("a", "b"), chartOf("ab", "ba")},
		{chartOf("ab", "cd"), chartOf("abcd", "cdab")},
		{chartOf("a", "b", "c", "d"), chartOf("ac", "bd", "ca", "db")},
		{chartOf("ab", "cd", "ef", "ba"), chartOf("abef", "cdba", "efab", "bacd")},
		{chartOf("abcd", "efab"), chartOf("abcdefab", "efababcd")},
		{chartOf("a", "b", "c", "d", "e", "f"), chartOf("ad", "be", "cf", "da", "eb", "fc")},
		{chartOf("a", "b", "c", "d", "e", "f", "a", "c"), chartOf("ae", "bf", "ca", "dc", "ea", "fb", "ac", "cd")},
	} {
		if dropped, ok := impl.HalfDrop(c.motif); !ok || !sameChart(dropped, c.want) {
			t.Errorf("HalfDrop(%v) = %v, %v", c.motif, dropped, ok)
		}
	}
	for _, motif := range append(allSizes(1), allSizes(4)...) {
		dropped, ok := impl.HalfDrop(motif)
		if motif.Height%2 == 1 || motif.Width > 4 {
			if ok || !isNoChart(dropped) {
				t.Errorf("HalfDrop(%v) = %v, %v", motif, dropped, ok)
			}
			continue
		}
		want := impl.Chart{Width: 2 * motif.Width, Height: motif.Height, Knots: make([]int, 2*len(motif.Knots))}
		for row := range motif.Height {
			for col := range motif.Width {
				down := (row + motif.Height/2) % motif.Height
				want.Knots[row*want.Width+col] = knotIn(motif, row, col)
				want.Knots[down*want.Width+motif.Width+col] = knotIn(motif, row, col)
			}
		}
		if !ok || !sameChart(dropped, want) {
			t.Errorf("HalfDrop(%v) = %v, %v", motif, dropped, ok)
		}
	}
}

// periodByKnots returns the smallest number by which a Chart has the period down and across that are given as multiples of it.
func periodByKnots(c impl.Chart, down, across int) int {
	for p := 1; ; p++ {
		same := true
		for row := range c.Height - p*down {
			for col := range c.Width - p*across {
				same = same && knotIn(c, row, col) == knotIn(c, row+p*down, col+p*across)
			}
		}
		if same {
			return p
		}
	}
}

func TestPeriodAcross(t *testing.T) {
	for _, c := range []struct {
		c    impl.Chart
		want int
	}{
		{chartOf("a"), 1},
		{chartOf("aa"), 1},
		{chartOf("ab"), 2},
		{chartOf("aaaaaaaa"), 1},
		{chartOf("abababab"), 2},
		{chartOf("abcabc"), 3},
		{chartOf("abcdefab"), 6},
		// Periods that do not divide the width.
		{chartOf("aba"), 2},
		{chartOf("ababa"), 2},
		{chartOf("abcab"), 3},
		{chartOf("aabaabaa"), 3},
		{chartOf("abcdabc"), 4},
		{chartOf("abca"), 3},
		{chartOf("aaaaaaab"), 8},
		{chartOf("abbbbbba"), 7},
		// All rows must have it.
		{chartOf("aaaa", "abab"), 2},
		{chartOf("abab", "aaaa"), 2},
		{chartOf("abcabc", "ababab"), 6},
		{chartOf("ababab", "abcabc"), 6},
		{chartOf("abaab", "ababa"), 5},
		{chartOf("aba", "abb"), 3},
		{chartOf("aaa", "aab", "aaa"), 3},
		// One row need not go on as the one above it.
		{chartOf("ab", "cd"), 2},
		{chartOf("aa", "bb", "cc"), 1},
	} {
		if p, ok := impl.PeriodAcross(c.c); !ok || p != c.want {
			t.Errorf("PeriodAcross(%v) = %d, %v", c.c, p, ok)
		}
	}
	for _, c := range slices.Concat(tiledCharts(), evenCharts(), manySmallCharts()) {
		if p, ok := impl.PeriodAcross(c); !ok || p != periodByKnots(c, 0, 1) {
			t.Fatalf("PeriodAcross(%v) = %d, %v", c, p, ok)
		}
	}
}

func TestPeriodDown(t *testing.T) {
	for _, c := range []struct {
		c    impl.Chart
		want int
	}{
		{chartOf("a"), 1},
		{chartOf("ab"), 1},
		{chartOf("ab", "ab"), 1},
		{chartOf("ab", "ba"), 2},
		{chartOf("a", "b", "a", "b", "a", "b", "a", "b"), 2},
		{chartOf("a", "b", "c", "a", "b", "c"), 3},
		// Periods that do not divide the height.
		{chartOf("a", "b", "a"), 2},
		{chartOf("ab", "cd", "ef", "ab", "cd"), 3},
		{chartOf("a", "a", "b", "a", "a", "b", "a", "a"), 3},
		{chartOf("a", "a", "a", "a", "a", "a", "a", "b"), 8},
		{chartOf("a", "b", "b", "b", "b", "b", "b", "a"), 7},
		// All columns must have it.
		{chartOf("aa", "ab", "aa", "ab"), 2},
		{chartOf("aa", "bb", "ca", "ab", "ba", "cb"), 6},
		{chartOf("aa", "bb", "ab"), 3},
	} {
		if p, ok := impl.PeriodDown(c.c); !ok || p != c.want {
			t.Errorf("PeriodDown(%v) = %d, %v", c.c, p, ok)
		}
	}
	for _, c := range slices.Concat(tiledCharts(), evenCharts(), manySmallCharts()) {
		if p, ok := impl.PeriodDown(c); !ok || p != periodByKnots(c, 1, 0) {
			t.Fatalf("PeriodDown(%v) = %d, %v", c, p, ok)
		}
	}
}

func TestSmallestMotif(t *testing.T) {
	for _, c := range []struct{ c, want impl.Chart }{
		{chartOf("abab", "abab"), chartOf("ab")},
		{chartOf("a"), chartOf("a")},
		{chartOf("aaa", "aaa"), chartOf("a")},
		{chartOf("abab", "baba"), chartOf("ab", "ba")},
		{chartOf("abcabc", "defdef"), chartOf("abc", "def")},
		{chartOf("ab", "cd", "ab", "cd", "ab", "cd"), chartOf("ab", "cd")},
		{chartOf("abababab"), chartOf("ab")},
		{chartOf("abcdabcd"), chartOf("abcd")},
		// Where the smallest period does not divide the side, the whole side is needed.
		{chartOf("aba"), chartOf("aba")},
		{chartOf("ababa"), chartOf("ababa")},
		{chartOf("abcabcab"), chartOf("abcabcab")},
		{chartOf("abcdefab"), chartOf("abcdefab")},
		{chartOf("abccab"), chartOf("abccab")},
		{chartOf("a", "b", "a"), chartOf("a", "b", "a")},
		{chartOf("aa", "bb", "aa"), chartOf("a", "b", "a")},
		{chartOf("aba", "aba"), chartOf("aba")},
		{chartOf("aba", "bab", "aba"), chartOf("aba", "bab", "aba")},
		{chartOf("aabaabaa", "aabaabaa", "bbbbbbbb", "aabaabaa"), chartOf("aabaabaa", "aabaabaa", "bbbbbbbb", "aabaabaa")},
	} {
		if smallest, ok := impl.SmallestMotif(c.c); !ok || !sameChart(smallest, c.want) {
			t.Errorf("SmallestMotif(%v) = %v, %v", c.c, smallest, ok)
		}
	}
}

// No smaller motif can be repeated to the whole Chart, and this one can.
func TestSmallestMotifRepeatsToTheWhole(t *testing.T) {
	for _, c := range slices.Concat(tiledCharts(), evenCharts(), manySmallCharts()) {
		width, height := 1, 1
		for c.Width%width != 0 || !sameChart(c, tiledChart(impl.Chart{Width: width, Height: c.Height, Knots: cut(c, width)}, c.Width, c.Height)) {
			width++
		}
		for c.Height%height != 0 || !sameChart(c, tiledChart(impl.Chart{Width: c.Width, Height: height, Knots: c.Knots[:c.Width*height]}, c.Width, c.Height)) {
			height++
		}
		smallest, ok := impl.SmallestMotif(c)
		if !ok || smallest.Width != width || smallest.Height != height {
			t.Fatalf("SmallestMotif(%v) = %v, %v", c, smallest, ok)
		}
		if whole, ok := impl.RepeatMotif(smallest, c.Width/width, c.Height/height); !ok || !sameChart(whole, c) {
			t.Fatalf("%v, repeated, is %v, not %v", smallest, whole, c)
		}
	}
}

// cut returns the first knots of each row of a Chart.
func cut(c impl.Chart, width int) []int {
	var knots []int
	for row := range c.Height {
		knots = append(knots, c.Knots[row*c.Width:row*c.Width+width]...)
	}
	return knots
}

// placesByKnots returns all places at which each knot of a motif lies within a Chart and has the same color as there.
func placesByKnots(c, motif impl.Chart) [][2]int {
	var places [][2]int
	for row := range c.Height {
		for col := range c.Width {
			same := row+motif.Height <= c.Height && col+motif.Width <= c.Width
			for i := range motif.Knots {
				down, right := i/motif.Width, i%motif.Width
				same = same && knotIn(c, row+down, col+right) == motif.Knots[i]
			}
			if same {
				places = append(places, [2]int{row, col})
			}
		}
	}
	return places
}

// apartByKnots takes the occurrences in order and marks their knots.
func apartByKnots(c, motif impl.Chart) int {
	taken := map[[2]int]bool{}
	count := 0
	for _, place := range placesByKnots(c, motif) {
		free := true
		for i := range motif.Knots {
			free = free && !taken[[2]int{place[0] + i/motif.Width, place[1] + i%motif.Width}]
		}
		if !free {
			continue
		}
		count++
		for i := range motif.Knots {
			taken[[2]int{place[0] + i/motif.Width, place[1] + i%motif.Width}] = true
		}
	}
	return count
}

// anyWayByTexts counts the different texts of a place and a Chart that a motif becomes.
func anyWayByTexts(c, motif impl.Chart) int {
	found := map[string]bool{}
	for s := range 8 {
		moved := chartAfter(motif, s)
		for _, place := range placesByKnots(c, moved) {
			found[fmt.Sprint(place, moved)] = true
		}
	}
	return len(found)
}

// checkPlaces compares what is found of a motif in a Chart with what is found knot by knot, and returns how often it occurs.
func checkPlaces(t *testing.T, c, motif impl.Chart) int {
	t.Helper()
	want := placesByKnots(c, motif)
	if places, ok := impl.PlacesOf(c, motif); !ok || !slices.Equal(places, want) {
		t.Fatalf("PlacesOf(%v, %v) = %v, %v", c, motif, places, ok)
	}
	if n, ok := impl.ApartPlaces(c, motif); !ok || n != apartByKnots(c, motif) {
		t.Fatalf("ApartPlaces(%v, %v) = %d, %v", c, motif, n, ok)
	}
	if n, ok := impl.AnyWayPlaces(c, motif); !ok || n != anyWayByTexts(c, motif) {
		t.Fatalf("AnyWayPlaces(%v, %v) = %d, %v", c, motif, n, ok)
	}
	return len(want)
}

func TestPlacesOf(t *testing.T) {
	for _, c := range []struct {
		c, motif impl.Chart
		want     [][2]int
	}{
		{chartOf("abab"), chartOf("ba"), [][2]int{{0, 1}}},
		{chartOf("abab"), chartOf("ab"), [][2]int{{0, 0}, {0, 2}}},
		{chartOf("aaa"), chartOf("aa"), [][2]int{{0, 0}, {0, 1}}},
		{chartOf("aaa", "aaa", "aaa"), chartOf("aa", "aa"), [][2]int{{0, 0}, {0, 1}, {1, 0}, {1, 1}}},
		{chartOf("ab", "ba"), chartOf("b"), [][2]int{{0, 1}, {1, 0}}},
		{chartOf("abc", "def"), chartOf("f"), [][2]int{{1, 2}}},
		{chartOf("abc", "def"), chartOf("bc", "ef"), [][2]int{{0, 1}}},
		{chartOf("abc", "def"), chartOf("abc", "def"), [][2]int{{0, 0}}},
		{chartOf("a"), chartOf("a"), [][2]int{{0, 0}}},
		{chartOf("a"), chartOf("b"), nil},
		{chartOf("ab", "cd"), chartOf("ad"), nil},
		// A motif goes on neither into the next row nor beyond the last one.
		{chartOf("ab", "cd"), chartOf("bc"), nil},
		{chartOf("ab", "ab"), chartOf("b", "a"), nil},
		{chartOf("aa", "aa"), chartOf("aaa"), nil},
		{chartOf("aa", "aa"), chartOf("a", "a", "a"), nil},
		{chartOf("a"), chartOf("aaaaaaaa"), nil},
		{chartOf("aaaaaaaa"), chartOf("a", "a"), nil},
		{chartOf("aaaaaaaa"), chartOf("aaaaaaaa"), [][2]int{{0, 0}}},
		// Its turned or mirrored copies do not count.
		{chartOf("ba"), chartOf("ab"), nil},
		{chartOf("a", "b"), chartOf("ab"), nil},
	} {
		if places, ok := impl.PlacesOf(c.c, c.motif); !ok || !slices.Equal(places, c.want) {
			t.Errorf("PlacesOf(%v, %v) = %v, %v", c.c, c.motif, places, ok)
		}
	}
}

func TestApartPlaces(t *testing.T) {
	for _, c := range []struct {
		c, motif impl.Chart
		want     int
	}{
		{chartOf("aaa"), chartOf("aa"), 1},
		{chartOf("aaaa"), chartOf("aa"), 2},
		{chartOf("aaaaaaaa"), chartOf("aaa"), 2},
		{chartOf("aaa", "aaa", "aaa"), chartOf("aa", "aa"), 1},
		{chartOf("aaaa", "aaaa"), chartOf("aa", "aa"), 2},
		{chartOf("a", "a", "a", "a", "a"), chartOf("a", "a"), 2},
		{chartOf("ababa"), chartOf("aba"), 1},
		{chartOf("abababa"), chartOf("aba"), 2},
		{chartOf("ab", "ba"), chartOf("a"), 2},
		{chartOf("ab"), chartOf("c"), 0},
		{chartOf("ab"), chartOf("abc"), 0},
		{chartOf("ab", "cd"), chartOf("ab", "cd"), 1},
		// One that is not taken does not keep others away: that at 2 meets that at 1, but not the one taken at 0.
		{chartOf("aaaaaa"), chartOf("aa"), 3},
		// What is taken first may leave fewer than there could be: that at 0, 1 meets both at 1, 0 and 1, 2.
		{chartOf("baab", "aaaa", "aaaa"), chartOf("aa", "aa"), 1},
		// Corners that touch have no knot in common, and those that overlap have one.
		{chartOf("aabb", "aabb", "bbaa", "bbaa"), chartOf("aa", "aa"), 2},
		{chartOf("aab", "aaa", "baa"), chartOf("aa", "aa"), 1},
		{chartOf("baa", "aaa", "aab"), chartOf("aa", "aa"), 1},
	} {
		if n, ok := impl.ApartPlaces(c.c, c.motif); !ok || n != c.want {
			t.Errorf("ApartPlaces(%v, %v) = %d, %v", c.c, c.motif, n, ok)
		}
	}
}

func TestAnyWayPlaces(t *testing.T) {
	for _, c := range []struct {
		c, motif impl.Chart
		want     int
	}{
		{chartOf("ab", "ba"), chartOf("ab"), 4},
		// A motif that stays the same by some or all symmetries counts once at each place.
		{chartOf("aa", "aa"), chartOf("a"), 4},
		{chartOf("aa", "aa"), chartOf("aa"), 4},
		{chartOf("aa", "aa"), chartOf("aa", "aa"), 1},
		{chartOf("aba"), chartOf("aba"), 1},
		{chartOf("ab", "ba"), chartOf("ab", "ba"), 1},
		{chartOf("aba", "bab"), chartOf("ab", "ba"), 2},
		// Those that are different count each, though they lie at the same place or over each other.
		{chartOf("aba"), chartOf("ab"), 2},
		{chartOf("ab", "bb"), chartOf("ab"), 2},
		{chartOf("ab", "cd"), chartOf("ba", "dc"), 1},
		{chartOf("db", "ca"), chartOf("ab", "cd"), 1},
		// A motif that is too wide or too high may fit when it is turned.
		{chartOf("a", "b", "c"), chartOf("abc"), 1},
		{chartOf("cba"), chartOf("a", "b", "c"), 1},
		{chartOf("a", "b"), chartOf("abc"), 0},
		{chartOf("aaaaaaaa"), chartOf("a", "a", "a", "a", "a", "a", "a", "a"), 1},
		{chartOf("ab"), chartOf("ac"), 0},
		{chartOf("a"), chartOf("a"), 1},
		{chartOf("a"), chartOf("aa", "aa"), 0},
	} {
		if n, ok := impl.AnyWayPlaces(c.c, c.motif); !ok || n != c.want {
			t.Errorf("AnyWayPlaces(%v, %v) = %d, %v", c.c, c.motif, n, ok)
		}
	}
}

// All small Charts in all small Charts, and parts of greater ones in them and in others.
func TestPlacesByKnots(t *testing.T) {
	occurs := 0
	for _, c := range slices.Concat(smallCharts(3, 2, 2), smallCharts(2, 3, 2), smallCharts(3, 3, 2), smallCharts(4, 2, 2)) {
		for _, motif := range slices.Concat(smallCharts(1, 1, 3), smallCharts(2, 1, 2), smallCharts(1, 2, 2), smallCharts(2, 2, 2), smallCharts(1, 3, 2), smallCharts(4, 1, 2)) {
			occurs += checkPlaces(t, c, motif)
		}
	}
	for i, c := range slices.Concat(evenCharts(), tiledCharts()) {
		for k := range 3 {
			row, col := (i+k)%c.Height, (i*3+k*5)%c.Width
			part, ok := impl.PartOf(c, row, col, (i+k)%(c.Height-row)+1, (i*2+k)%(c.Width-col)+1)
			if !ok {
				t.Fatalf("%v has no part", c)
			}
			occurs += checkPlaces(t, c, part)
			checkPlaces(t, part, c)
			checkPlaces(t, c, chartAfter(part, (i+k)%8))
			checkPlaces(t, mixedChart(8, 8, i), part)
		}
	}
	if occurs == 0 {
		t.Error("no motif here occurs anywhere")
	}
}

func TestMotifFunctionsRefuseInvalidCharts(t *testing.T) {
	for _, bad := range invalidCharts() {
		for _, n := range []int{-1, 0, 1, 2, 8, 1 << 62, math.MaxInt} {
			if c, ok := impl.RepeatMotif(bad, n, 1); ok || !isNoChart(c) {
				t.Errorf("RepeatMotif(%v, %d, 1) = %v, %v", bad, n, c, ok)
			}
			if c, ok := impl.RepeatMotif(bad, 1, n); ok || !isNoChart(c) {
				t.Errorf("RepeatMotif(%v, 1, %d) = %v, %v", bad, n, c, ok)
			}
			if c, ok := impl.MirrorRepeat(bad, n); ok || !isNoChart(c) {
				t.Errorf("MirrorRepeat(%v, %d) = %v, %v", bad, n, c, ok)
			}
		}
		if c, ok := impl.HalfDrop(bad); ok || !isNoChart(c) {
			t.Errorf("HalfDrop(%v) = %v, %v", bad, c, ok)
		}
		if c, ok := impl.SmallestMotif(bad); ok || !isNoChart(c) {
			t.Errorf("SmallestMotif(%v) = %v, %v", bad, c, ok)
		}
		across, one := impl.PeriodAcross(bad)
		down, two := impl.PeriodDown(bad)
		if one || two || across != 0 || down != 0 {
			t.Errorf("%v has the periods %d, %v and %d, %v", bad, across, one, down, two)
		}
		for _, other := range append(invalidCharts(), chartOf("a"), chartOf("ab", "cd"), mixedChart(8, 8, 1)) {
			for _, p := range [][2]impl.Chart{{bad, other}, {other, bad}} {
				places, one := impl.PlacesOf(p[0], p[1])
				apart, two := impl.ApartPlaces(p[0], p[1])
				anyWay, three := impl.AnyWayPlaces(p[0], p[1])
				if one || two || three || len(places) != 0 || apart != 0 || anyWay != 0 {
					t.Errorf("%v occurs in %v at %v, %v, %d, %v and %d, %v", p[1], p[0], places, one, apart, two, anyWay, three)
				}
			}
		}
	}
}

// motifResults calls each function that returns Charts, and returns the knots of all results.
func motifResults(c impl.Chart) [][]int {
	var results [][]int
	for n := 1; n <= 8; n++ {
		across, _ := impl.RepeatMotif(c, n, 1)
		down, _ := impl.RepeatMotif(c, 1, n)
		both, _ := impl.RepeatMotif(c, n, n)
		mirrored, _ := impl.MirrorRepeat(c, n)
		results = append(results, across.Knots, down.Knots, both.Knots, mirrored.Knots)
	}
	dropped, _ := impl.HalfDrop(c)
	smallest, _ := impl.SmallestMotif(c)
	return append(results, dropped.Knots, smallest.Knots)
}

func TestMotifFunctionsChangeNoArgument(t *testing.T) {
	for _, c := range append(evenCharts(), tiledCharts()...) {
		// What lies beyond the length of a slice stays as it is, too, and comes into no result.
		long := append(slices.Clone(c.Knots), 77, 78, 79)
		c.Knots = long[:len(c.Knots)]
		part := append(slices.Clone(long[:c.Width]), 87, 88, 89)
		motif := impl.Chart{Width: c.Width, Height: 1, Knots: part[:c.Width]}
		given, givenPart := slices.Clone(long), slices.Clone(part)
		for i, list := range motifResults(c) {
			if len(list) > 0 && slices.Max(list) > 5 {
				t.Errorf("result %d of %v is %v", i, c, list)
			}
		}
		impl.PeriodAcross(c)
		impl.PeriodDown(c)
		impl.PlacesOf(c, motif)
		impl.ApartPlaces(c, motif)
		impl.AnyWayPlaces(c, motif)
		if !slices.Equal(long, given) || !slices.Equal(part, givenPart) {
			t.Errorf("%v and %v have become %v and %v", given, givenPart, long, part)
		}
	}
}

// Whatever is written to one result, over all of its memory, neither another one nor the argument changes.
func TestMotifResultsAreSeparate(t *testing.T) {
	for _, c := range append(evenCharts(), tiledCharts()...) {
		given := cloneChart(c)
		results := append(motifResults(c), motifResults(c)...)
		checkSeparate(t, results, -1)
		if !sameChart(c, given) {
			t.Errorf("%v has become %v", given, c)
		}
		places, _ := impl.PlacesOf(c, c)
		again, _ := impl.PlacesOf(c, c)
		checkSeparate(t, [][][2]int{places, again}, [2]int{-1, -1})
	}
}

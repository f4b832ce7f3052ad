package tests

import (
	"math"
	"slices"
	"testing"

	"loop.example/g01023/impl"
)

// originOf returns the row and the column from which a symmetry brings the knot at a row and a column of the Chart after it, written out for each symmetry.
func originOf(c impl.Chart, s, row, col int) (int, int) {
	down, right := c.Height-1, c.Width-1
	origin := [8][2]int{
		{row, col}, {down - col, row}, {down - row, right - col}, {col, right - row},
		{row, right - col}, {down - col, right - row}, {down - row, col}, {col, row},
	}[s]
	return origin[0], origin[1]
}

// chartAfter returns a Chart after a symmetry, knot by knot.
func chartAfter(c impl.Chart, s int) impl.Chart {
	after := impl.Chart{Width: c.Width, Height: c.Height}
	if s%2 == 1 {
		after.Width, after.Height = c.Height, c.Width
	}
	for row := range after.Height {
		for col := range after.Width {
			fromRow, fromCol := originOf(c, s, row, col)
			after.Knots = append(after.Knots, c.Knots[fromRow*c.Width+fromCol])
		}
	}
	return after
}

// evenCharts returns Charts of all sizes that are mixed, plain, or the same on both sides of lines through the middle.
func evenCharts() []impl.Chart {
	var charts []impl.Chart
	for _, c := range append(allSizes(1), allSizes(4)...) {
		plain, flipped, tipped, both := cloneChart(c), cloneChart(c), cloneChart(c), cloneChart(c)
		for i := range c.Knots {
			row, col := i/c.Width, i%c.Width
			fromRow, fromCol := min(row, c.Height-1-row), min(col, c.Width-1-col)
			plain.Knots[i] = 3
			flipped.Knots[i] = c.Knots[row*c.Width+fromCol]
			tipped.Knots[i] = c.Knots[fromRow*c.Width+col]
			both.Knots[i] = (fromRow*fromCol + fromRow + fromCol) % impl.MaxColors
		}
		charts = append(charts, c, plain, flipped, tipped, both)
	}
	return charts
}

// smallCharts returns all Charts with a size in the first colors.
func smallCharts(width, height, colors int) []impl.Chart {
	charts := []impl.Chart{{Width: width, Height: height}}
	for range width * height {
		var longer []impl.Chart
		for _, c := range charts {
			for color := range colors {
				longer = append(longer, impl.Chart{Width: width, Height: height, Knots: append(slices.Clone(c.Knots), color)})
			}
		}
		charts = longer
	}
	return charts
}

// manySmallCharts returns all Charts of some small sizes in few colors.
func manySmallCharts() []impl.Chart {
	return slices.Concat(
		smallCharts(1, 1, 6), smallCharts(2, 1, 6), smallCharts(1, 2, 6), smallCharts(3, 1, 4), smallCharts(1, 3, 4),
		smallCharts(2, 2, 4), smallCharts(3, 2, 3), smallCharts(2, 3, 3), smallCharts(4, 2, 2), smallCharts(2, 4, 2), smallCharts(3, 3, 2),
	)
}

func differencesOf(a, b impl.Chart) int {
	count := 0
	for i := range a.Knots {
		if a.Knots[i] != b.Knots[i] {
			count++
		}
	}
	return count
}

func TestTurnChart(t *testing.T) {
	for _, c := range []struct{ given, want impl.Chart }{
		{chartOf("ab", "cd"), chartOf("ca", "db")},
		{chartOf("abc", "def"), chartOf("da", "eb", "fc")},
		{chartOf("ab", "cd", "ef"), chartOf("eca", "fdb")},
		{chartOf("abc"), chartOf("a", "b", "c")},
		{chartOf("a", "b", "c"), chartOf("cba")},
		{chartOf("f"), chartOf("f")},
		{chartOf("abcdefab"), chartOf("a", "b", "c", "d", "e", "f", "a", "b")},
	} {
		if turned, ok := impl.TurnChart(c.given); !ok || !sameChart(turned, c.want) {
			t.Errorf("TurnChart(%v) = %v, %v", c.given, turned, ok)
		}
	}
	for _, c := range allSizes(2) {
		turned, ok := impl.TurnChart(c)
		if !ok || !sameChart(turned, chartAfter(c, 1)) {
			t.Errorf("TurnChart(%v) = %v, %v", c, turned, ok)
		}
		for range 3 {
			turned, _ = impl.TurnChart(turned)
		}
		if !sameChart(turned, c) {
			t.Errorf("%v, turned four times, is %v", c, turned)
		}
	}
	for _, bad := range invalidCharts() {
		if turned, ok := impl.TurnChart(bad); ok || !isNoChart(turned) {
			t.Errorf("TurnChart(%v) = %v, %v", bad, turned, ok)
		}
	}
}

func TestMirrorChart(t *testing.T) {
	for _, c := range []struct{ given, want impl.Chart }{
		{chartOf("ab", "cd"), chartOf("ba", "dc")},
		{chartOf("abc", "def"), chartOf("cba", "fed")},
		{chartOf("ab", "cd", "ef"), chartOf("ba", "dc", "fe")},
		{chartOf("abc"), chartOf("cba")},
		{chartOf("a", "b", "c"), chartOf("a", "b", "c")},
		{chartOf("f"), chartOf("f")},
		{chartOf("abcdefab"), chartOf("bafedcba")},
	} {
		if mirrored, ok := impl.MirrorChart(c.given); !ok || !sameChart(mirrored, c.want) {
			t.Errorf("MirrorChart(%v) = %v, %v", c.given, mirrored, ok)
		}
	}
	for _, c := range allSizes(3) {
		mirrored, ok := impl.MirrorChart(c)
		if !ok || !sameChart(mirrored, chartAfter(c, 4)) {
			t.Errorf("MirrorChart(%v) = %v, %v", c, mirrored, ok)
		}
		if again, _ := impl.MirrorChart(mirrored); !sameChart(again, c) {
			t.Errorf("%v, mirrored twice, is %v", c, again)
		}
	}
	for _, bad := range invalidCharts() {
		if mirrored, ok := impl.MirrorChart(bad); ok || !isNoChart(mirrored) {
			t.Errorf("MirrorChart(%v) = %v, %v", bad, mirrored, ok)
		}
	}
}

func TestMoveChart(t *testing.T) {
	c := chartOf("abc", "def")
	for s, want := range []impl.Chart{
		c, chartOf("da", "eb", "fc"), chartOf("fed", "cba"), chartOf("cf", "be", "ad"),
		chartOf("cba", "fed"), chartOf("fc", "eb", "da"), chartOf("def", "abc"), chartOf("ad", "be", "cf"),
	} {
		if moved, ok := impl.MoveChart(c, s); !ok || !sameChart(moved, want) {
			t.Errorf("MoveChart(%v, %d) = %v, %v", c, s, moved, ok)
		}
	}
	for _, c := range allSizes(4) {
		for s := range 8 {
			if moved, ok := impl.MoveChart(c, s); !ok || !sameChart(moved, chartAfter(c, s)) {
				t.Errorf("MoveChart(%v, %d) = %v, %v", c, s, moved, ok)
			}
		}
	}
}

// A symmetry is the mirroring, if there is one, and then the quarter turns.
func TestMoveChartMirrorsAndThenTurns(t *testing.T) {
	for _, c := range allSizes(5) {
		for s := range 8 {
			want := cloneChart(c)
			if s >= 4 {
				want, _ = impl.MirrorChart(want)
			}
			for range s % 4 {
				want, _ = impl.TurnChart(want)
			}
			if moved, ok := impl.MoveChart(c, s); !ok || !sameChart(moved, want) {
				t.Errorf("MoveChart(%v, %d) = %v, %v", c, s, moved, ok)
			}
		}
	}
}

func TestHasSymmetry(t *testing.T) {
	for _, c := range append(evenCharts(), manySmallCharts()...) {
		for s := range 8 {
			if has, ok := impl.HasSymmetry(c, s); !ok || has != sameChart(chartAfter(c, s), c) {
				t.Errorf("HasSymmetry(%v, %d) = %v, %v", c, s, has, ok)
			}
		}
	}
}

func TestSymmetriesOf(t *testing.T) {
	for _, c := range []struct {
		c    impl.Chart
		want []int
	}{
		{chartOf("ab", "ba"), []int{0, 2, 5, 7}},
		{chartOf("aba", "bcb", "aba"), []int{0, 1, 2, 3, 4, 5, 6, 7}},
		{chartOf("f"), []int{0, 1, 2, 3, 4, 5, 6, 7}},
		{chartOf("ab", "cd"), []int{0}},
		{chartOf("aa", "bb"), []int{0, 4}},
		{chartOf("ab", "ab"), []int{0, 6}},
		{chartOf("ab", "bc"), []int{0, 7}},
		{chartOf("ab", "ca"), []int{0, 5}},
		{chartOf("aba", "bab", "aba"), []int{0, 1, 2, 3, 4, 5, 6, 7}},
		{chartOf("abaa", "aaab", "baaa", "aaba"), []int{0, 1, 2, 3}},
		{chartOf("aab", "aca", "baa"), []int{0, 2, 5, 7}},
		{chartOf("abc", "ada", "cba"), []int{0, 2}},
		{chartOf("aba", "cdc", "aba"), []int{0, 2, 4, 6}},
		// What is not square has none with an odd number of turns, though it is the same knot for knot.
		{chartOf("aa"), []int{0, 2, 4, 6}},
		{chartOf("a", "a"), []int{0, 2, 4, 6}},
		{chartOf("ab"), []int{0, 6}},
		{chartOf("a", "b"), []int{0, 4}},
		{chartOf("aba"), []int{0, 2, 4, 6}},
		{chartOf("aab", "baa"), []int{0, 2}},
		{chartOf("abc", "def"), []int{0}},
		{chartOf("aaa", "bbb"), []int{0, 4}},
		{chartOf("abc", "abc"), []int{0, 6}},
		{chartOf("aaaaaaaa", "aaaaaaaa"), []int{0, 2, 4, 6}},
	} {
		if list, ok := impl.SymmetriesOf(c.c); !ok || !slices.Equal(list, c.want) {
			t.Errorf("SymmetriesOf(%v) = %v, %v", c.c, list, ok)
		}
	}
	for _, c := range append(evenCharts(), manySmallCharts()...) {
		var want []int
		for s := range 8 {
			if sameChart(chartAfter(c, s), c) {
				want = append(want, s)
			}
		}
		if list, ok := impl.SymmetriesOf(c); !ok || !slices.Equal(list, want) {
			t.Errorf("SymmetriesOf(%v) = %v, %v", c, list, ok)
		}
	}
	for _, bad := range invalidCharts() {
		if list, ok := impl.SymmetriesOf(bad); ok || len(list) != 0 {
			t.Errorf("SymmetriesOf(%v) = %v, %v", bad, list, ok)
		}
	}
}

// Promise 4: the symmetries of a Chart with any two of them have the one after both.
func TestSymmetriesHaveTheOneAfterBoth(t *testing.T) {
	counts := map[int]int{}
	for _, c := range append(evenCharts(), manySmallCharts()...) {
		list, ok := impl.SymmetriesOf(c)
		if !ok {
			t.Fatalf("%v has no symmetries", c)
		}
		counts[len(list)]++
		for _, a := range list {
			for _, b := range list {
				if both, ok := impl.AfterBoth(a, b); !ok || !slices.Contains(list, both) {
					t.Fatalf("%v has %v, but not %d, %v after %d and %d", c, list, both, ok, a, b)
				}
			}
			if undo, ok := impl.UndoOf(a); !ok || !slices.Contains(list, undo) {
				t.Fatalf("%v has %v, but not %d, %v, which undoes %d", c, list, undo, ok, a)
			}
		}
	}
	for _, n := range []int{1, 2, 4, 8} {
		if counts[n] == 0 {
			t.Errorf("no Chart here has %d symmetries: %v", n, counts)
		}
	}
}

// A Chart moved by a and then by b is the one moved by the symmetry after both, and no other symmetry does the same to all Charts.
func TestAfterBoth(t *testing.T) {
	for a := range 8 {
		for b := range 8 {
			both, ok := impl.AfterBoth(a, b)
			if !ok || both < 0 || both > 7 {
				t.Fatalf("AfterBoth(%d, %d) = %d, %v", a, b, both, ok)
			}
			for _, c := range append(allSizes(6), chartOf("abc", "def", "acf")) {
				if !sameChart(chartAfter(chartAfter(c, a), b), chartAfter(c, both)) {
					t.Fatalf("%v after %d and %d is not that after %d", c, a, b, both)
				}
				first, _ := impl.MoveChart(c, a)
				second, _ := impl.MoveChart(first, b)
				if moved, ok := impl.MoveChart(c, both); !ok || !sameChart(moved, second) {
					t.Fatalf("%v moved by %d is %v, %v", c, both, moved, ok)
				}
			}
		}
	}
	for _, p := range [][3]int{{1, 4, 7}, {4, 1, 5}, {5, 5, 0}, {1, 3, 0}, {3, 3, 2}, {4, 6, 2}, {6, 4, 2}, {5, 4, 3}, {4, 5, 1}, {0, 7, 7}, {7, 0, 7}, {7, 7, 0}, {2, 7, 5}, {7, 2, 5}} {
		if both, ok := impl.AfterBoth(p[0], p[1]); !ok || both != p[2] {
			t.Errorf("AfterBoth(%d, %d) = %d, %v", p[0], p[1], both, ok)
		}
	}
}

func TestUndoOf(t *testing.T) {
	for s, want := range []int{0, 3, 2, 1, 4, 5, 6, 7} {
		undo, ok := impl.UndoOf(s)
		if !ok || undo != want {
			t.Errorf("UndoOf(%d) = %d, %v", s, undo, ok)
		}
		for _, c := range allSizes(7) {
			moved, _ := impl.MoveChart(c, s)
			if back, ok := impl.MoveChart(moved, undo); !ok || !sameChart(back, c) {
				t.Errorf("%v moved by %d and %d is %v, %v", c, s, undo, back, ok)
			}
		}
		for _, p := range [][2]int{{s, undo}, {undo, s}} {
			if both, ok := impl.AfterBoth(p[0], p[1]); !ok || both != 0 {
				t.Errorf("AfterBoth(%d, %d) = %d, %v", p[0], p[1], both, ok)
			}
		}
	}
}

func TestSymmetriesOutsideAreRefused(t *testing.T) {
	for _, s := range append(oddNumbers(), 4, 10, 16, -4, -7, -8, math.MinInt+4) {
		valid := s >= 0 && s <= 7
		if undo, ok := impl.UndoOf(s); ok != valid || !ok && undo != 0 {
			t.Errorf("UndoOf(%d) = %d, %v", s, undo, ok)
		}
		for _, other := range append(oddNumbers(), 4) {
			fine := valid && other >= 0 && other <= 7
			if both, ok := impl.AfterBoth(s, other); ok != fine || !ok && both != 0 {
				t.Errorf("AfterBoth(%d, %d) = %d, %v", s, other, both, ok)
			}
			if both, ok := impl.AfterBoth(other, s); ok != fine || !ok && both != 0 {
				t.Errorf("AfterBoth(%d, %d) = %d, %v", other, s, both, ok)
			}
		}
		for _, c := range append(invalidCharts(), chartOf("ab", "cd"), chartOf("a"), chartOf("aaa", "aaa"), mixedChart(8, 8, 1)) {
			fine := valid && impl.IsChart(c)
			if moved, ok := impl.MoveChart(c, s); ok != fine || !ok && !isNoChart(moved) {
				t.Errorf("MoveChart(%v, %d) = %v, %v", c, s, moved, ok)
			}
			if has, ok := impl.HasSymmetry(c, s); ok != fine || !ok && has {
				t.Errorf("HasSymmetry(%v, %d) = %v, %v", c, s, has, ok)
			}
			// Only with an odd number of turns does a Chart that is not square get another size.
			fits := fine && (c.Width == c.Height || s%2 == 0)
			if changes, ok := impl.FewestChanges(c, s); ok != fits || !ok && changes != 0 {
				t.Errorf("FewestChanges(%v, %d) = %d, %v", c, s, changes, ok)
			}
			if complete, ok := impl.CompleteChart(c, s); ok != fits || !ok && !isNoChart(complete) {
				t.Errorf("CompleteChart(%v, %d) = %v, %v", c, s, complete, ok)
			}
		}
	}
}

func TestFewestChanges(t *testing.T) {
	square, wide := chartOf("ab", "cd"), chartOf("abc", "def")
	for s, want := range []int{0, 3, 2, 3, 2, 1, 2, 1} {
		if changes, ok := impl.FewestChanges(square, s); !ok || changes != want {
			t.Errorf("FewestChanges(%v, %d) = %d, %v", square, s, changes, ok)
		}
	}
	for s, want := range []int{0, -1, 3, -1, 2, -1, 3, -1} {
		changes, ok := impl.FewestChanges(wide, s)
		if want >= 0 && (!ok || changes != want) || want < 0 && (ok || changes != 0) {
			t.Errorf("FewestChanges(%v, %d) = %d, %v", wide, s, changes, ok)
		}
	}
	corner := chartOf("ab", "aa")
	for s, want := range []int{0, 1, 1, 1, 1, 0, 1, 1} {
		if changes, ok := impl.FewestChanges(corner, s); !ok || changes != want {
			t.Errorf("FewestChanges(%v, %d) = %d, %v", corner, s, changes, ok)
		}
	}
}

// No Chart with the symmetry differs in fewer knots, and one differs in that many; tried with all Charts.
func TestFewestChangesAmongAllCharts(t *testing.T) {
	for _, all := range [][]impl.Chart{
		smallCharts(2, 2, 4), smallCharts(3, 1, 4), smallCharts(1, 3, 4), smallCharts(3, 2, 2), smallCharts(2, 3, 2), smallCharts(3, 3, 2),
	} {
		for s := range 8 {
			var even []impl.Chart
			for _, c := range all {
				if sameChart(chartAfter(c, s), c) {
					even = append(even, c)
				}
			}
			for _, c := range all {
				want := math.MaxInt
				for _, other := range even {
					want = min(want, differencesOf(c, other))
				}
				changes, ok := impl.FewestChanges(c, s)
				if fits := c.Width == c.Height || s%2 == 0; ok != fits || fits && changes != want || !fits && changes != 0 {
					t.Fatalf("FewestChanges(%v, %d) = %d, %v", c, s, changes, ok)
				}
			}
		}
	}
}

func TestCompleteChart(t *testing.T) {
	for _, c := range []struct {
		c    impl.Chart
		s    int
		want impl.Chart
	}{
		{chartOf("ab", "cd"), 0, chartOf("ab", "cd")},
		{chartOf("ab", "cd"), 1, chartOf("aa", "aa")},
		{chartOf("ab", "cd"), 2, chartOf("ab", "ba")},
		{chartOf("ab", "cd"), 3, chartOf("aa", "aa")},
		{chartOf("ab", "cd"), 4, chartOf("aa", "cc")},
		{chartOf("ab", "cd"), 5, chartOf("ab", "ca")},
		{chartOf("ab", "cd"), 6, chartOf("ab", "ab")},
		{chartOf("ab", "cd"), 7, chartOf("ab", "bd")},
		// The smallest color of several, wherever it stands first.
		{chartOf("dc", "bf"), 1, chartOf("bb", "bb")},
		{chartOf("fe", "ef"), 3, chartOf("ee", "ee")},
		{chartOf("ef", "fe"), 1, chartOf("ee", "ee")},
		{chartOf("fe"), 4, chartOf("ee")},
		{chartOf("f", "e"), 6, chartOf("e", "e")},
		// The color of most knots, though it is not the smallest one.
		{chartOf("fa", "fb"), 1, chartOf("ff", "ff")},
		{chartOf("af", "ff"), 3, chartOf("ff", "ff")},
		// A knot in the middle stays, and each ring about it gets a color of its own.
		{chartOf("bac", "afd", "bda"), 1, chartOf("bab", "afa", "bab")},
		{chartOf("bacb", "aeed", "cbea", "bdaf"), 1, chartOf("baab", "aeea", "aeea", "baab")},
		// The second orbit beside the first one, in what is not square.
		{chartOf("abc", "def"), 2, chartOf("abc", "cba")},
		{chartOf("abc", "def"), 4, chartOf("aba", "ded")},
		{chartOf("abc", "def"), 6, chartOf("abc", "abc")},
		{chartOf("fb", "ec", "da"), 2, chartOf("ab", "cc", "ba")},
		{chartOf("fb", "ec", "da"), 4, chartOf("bb", "cc", "aa")},
		{chartOf("fb", "ec", "da"), 6, chartOf("da", "ec", "da")},
	} {
		if complete, ok := impl.CompleteChart(c.c, c.s); !ok || !sameChart(complete, c.want) {
			t.Errorf("CompleteChart(%v, %d) = %v, %v", c.c, c.s, complete, ok)
		}
	}
}

// orbitOf returns the places to which a symmetry, made again and again, brings the knot at a place.
func orbitOf(c impl.Chart, s, place int) map[int]bool {
	orbit := map[int]bool{}
	for !orbit[place] {
		orbit[place] = true
		for to := range c.Knots {
			row, col := originOf(c, s, to/c.Width, to%c.Width)
			if row*c.Width+col == place {
				place = to
				break
			}
		}
	}
	return orbit
}

// Each knot of the complete Chart has the smallest color of which its orbit has no fewer than of any other.
func TestCompleteChartByOrbits(t *testing.T) {
	for _, c := range append(evenCharts(), manySmallCharts()...) {
		for s := range 8 {
			complete, ok := impl.CompleteChart(c, s)
			changes, fine := impl.FewestChanges(c, s)
			if c.Width != c.Height && s%2 == 1 {
				if ok || fine || !isNoChart(complete) || changes != 0 {
					t.Fatalf("%v can get %d: %v, %d", c, s, complete, changes)
				}
				continue
			}
			want := cloneChart(c)
			for place := range c.Knots {
				counts := make([]int, impl.MaxColors)
				for other := range orbitOf(c, s, place) {
					counts[c.Knots[other]]++
				}
				want.Knots[place] = slices.Index(counts, slices.Max(counts))
			}
			if !ok || !sameChart(complete, want) {
				t.Fatalf("CompleteChart(%v, %d) = %v, %v", c, s, complete, ok)
			}
			if !fine || changes != differencesOf(c, want) {
				t.Fatalf("FewestChanges(%v, %d) = %d, %v", c, s, changes, fine)
			}
			if has, _ := impl.HasSymmetry(complete, s); !has {
				t.Fatalf("CompleteChart(%v, %d) = %v, without it", c, s, complete)
			}
		}
	}
}

// A Chart has a symmetry if and only if nothing must change, and then it is complete.
func TestCompleteChartsStay(t *testing.T) {
	for _, c := range append(evenCharts(), manySmallCharts()...) {
		for s := range 8 {
			has, _ := impl.HasSymmetry(c, s)
			changes, ok := impl.FewestChanges(c, s)
			complete, fine := impl.CompleteChart(c, s)
			if has != (ok && changes == 0) || has != (fine && sameChart(complete, c)) {
				t.Fatalf("%v has %d: %v, with %d changes, and becomes %v", c, s, has, changes, complete)
			}
		}
	}
}

// symmetryResults calls each function that returns Charts or a slice, and returns the slices of all results.
func symmetryResults(c impl.Chart) [][]int {
	turned, _ := impl.TurnChart(c)
	mirrored, _ := impl.MirrorChart(c)
	list, _ := impl.SymmetriesOf(c)
	results := [][]int{turned.Knots, mirrored.Knots, list}
	for s := range 8 {
		moved, _ := impl.MoveChart(c, s)
		results = append(results, moved.Knots)
		if complete, ok := impl.CompleteChart(c, s); ok {
			results = append(results, complete.Knots)
		}
	}
	return results
}

func TestSymmetryFunctionsChangeNoArgument(t *testing.T) {
	for _, c := range evenCharts() {
		// What lies beyond the length of a slice stays as it is, too, and comes into no result.
		long := append(slices.Clone(c.Knots), 77, 78, 79)
		c.Knots = long[:len(c.Knots)]
		given := slices.Clone(long)
		for i, list := range symmetryResults(c) {
			if len(list) == 0 || slices.Max(list) > 7 {
				t.Errorf("result %d of %v is %v", i, c, list)
			}
		}
		for s := range 8 {
			impl.HasSymmetry(c, s)
			impl.FewestChanges(c, s)
		}
		if !slices.Equal(long, given) {
			t.Errorf("%v has become %v", given, long)
		}
	}
}

// Whatever is written to one result, over all of its memory, neither another one nor the argument changes.
func TestSymmetryResultsAreSeparate(t *testing.T) {
	for _, c := range evenCharts() {
		given := cloneChart(c)
		results := append(symmetryResults(c), symmetryResults(c)...)
		checkSeparate(t, results, -1)
		if !sameChart(c, given) {
			t.Errorf("%v has become %v", given, c)
		}
	}
}

package tests

import (
	"math"
	"slices"
	"strings"
	"testing"

	"loop.example/g01023/impl"
)

// chartOf returns the Chart with rows of letters, made without the program.
func chartOf(rows ...string) impl.Chart {
	c := impl.Chart{Width: len(rows[0]), Height: len(rows)}
	for _, row := range rows {
		for _, letter := range []byte(row) {
			c.Knots = append(c.Knots, int(letter-'a'))
		}
	}
	return c
}

// mixedChart returns a Chart with a size whose knots differ from most of their neighbors, depending on a seed.
func mixedChart(width, height, seed int) impl.Chart {
	c := impl.Chart{Width: width, Height: height}
	for i := range width * height {
		c.Knots = append(c.Knots, (i*i*7+i*3+seed*(i+1)+seed*seed)%11%impl.MaxColors)
	}
	return c
}

// allSizes returns a mixed Chart of each size.
func allSizes(seed int) []impl.Chart {
	var charts []impl.Chart
	for width := 1; width <= impl.MaxSide; width++ {
		for height := 1; height <= impl.MaxSide; height++ {
			charts = append(charts, mixedChart(width, height, seed))
		}
	}
	return charts
}

func cloneChart(c impl.Chart) impl.Chart {
	return impl.Chart{Width: c.Width, Height: c.Height, Knots: slices.Clone(c.Knots)}
}

func sameChart(a, b impl.Chart) bool {
	return a.Width == b.Width && a.Height == b.Height && slices.Equal(a.Knots, b.Knots)
}

func isNoChart(c impl.Chart) bool { return c.Width == 0 && c.Height == 0 && len(c.Knots) == 0 }

// invalidCharts returns Charts that are not valid, some of which a careless check takes.
func invalidCharts() []impl.Chart {
	return []impl.Chart{
		{},
		{Width: 1, Height: 1},
		{Width: 1, Height: 1, Knots: []int{}},
		{Width: 0, Height: 1},
		{Width: 1, Height: 0},
		{Width: 0, Height: 0, Knots: []int{0}},
		{Width: 2, Height: 2, Knots: []int{0, 1, 2}},
		{Width: 2, Height: 2, Knots: []int{0, 1, 2, 3, 4}},
		{Width: 2, Height: 2, Knots: make([]int, 3, 4)},
		{Width: -2, Height: -2, Knots: make([]int, 4)},
		{Width: -1, Height: 1, Knots: []int{0}},
		{Width: 1, Height: -1, Knots: []int{0}},
		{Width: 9, Height: 1, Knots: make([]int, 9)},
		{Width: 1, Height: 9, Knots: make([]int, 9)},
		{Width: 9, Height: 8, Knots: make([]int, 72)},
		{Width: 8, Height: 9, Knots: make([]int, 72)},
		{Width: 16, Height: 4, Knots: make([]int, 64)},
		{Width: 1, Height: 1, Knots: []int{6}},
		{Width: 1, Height: 1, Knots: []int{-1}},
		{Width: 3, Height: 1, Knots: []int{0, 0, 6}},
		{Width: 1, Height: 3, Knots: []int{-1, 0, 0}},
		{Width: 2, Height: 2, Knots: []int{0, 1, math.MaxInt, 1}},
		{Width: 2, Height: 2, Knots: []int{0, math.MinInt, 0, 1}},
		// The products of these sides overflow to the number of the knots.
		{Width: 1 << 32, Height: 1 << 32},
		{Width: 1<<62 + 1, Height: 4, Knots: make([]int, 4)},
		{Width: 4, Height: 1<<62 + 1, Knots: make([]int, 4)},
		{Width: math.MinInt, Height: 2},
		{Width: math.MaxInt, Height: math.MaxInt, Knots: []int{0}},
		{Width: math.MinInt, Height: math.MinInt, Knots: []int{}},
	}
}

// oddNumbers returns numbers about the limits of the chapter, and of int.
func oddNumbers() []int {
	return []int{math.MinInt, math.MinInt + 1, -1 << 32, -9, -2, -1, 0, 1, 2, 3, 5, 6, 7, 8, 9, 64, 1 << 32, 1 << 62, math.MaxInt - 1, math.MaxInt}
}

func TestChartConstants(t *testing.T) {
	if impl.MaxSide != 8 || impl.MaxColors != 6 || impl.MaxDay != 4000 {
		t.Error("limits", impl.MaxSide, impl.MaxColors, impl.MaxDay)
	}
}

func TestIsChart(t *testing.T) {
	for _, c := range allSizes(1) {
		if !impl.IsChart(c) {
			t.Errorf("%v is no Chart", c)
		}
		for i := range c.Knots {
			for _, n := range oddNumbers() {
				changed := cloneChart(c)
				changed.Knots[i] = n
				if impl.IsChart(changed) != (n >= 0 && n <= 5) {
					t.Errorf("IsChart(%v) = %v", changed, impl.IsChart(changed))
				}
			}
		}
		longer := impl.Chart{Width: c.Width, Height: c.Height, Knots: append(slices.Clone(c.Knots), 0)}
		shorter := impl.Chart{Width: c.Width, Height: c.Height, Knots: c.Knots[1:]}
		if impl.IsChart(longer) || impl.IsChart(shorter) {
			t.Errorf("a Chart %d by %d with a knot too many or too few is one", c.Width, c.Height)
		}
	}
	for _, c := range invalidCharts() {
		if impl.IsChart(c) {
			t.Errorf("%v is a Chart", c)
		}
	}
}

// A Chart is one only with sides of 1..8, whatever its knots.
func TestIsChartLimitsSides(t *testing.T) {
	for width := -10; width <= 10; width++ {
		for height := -10; height <= 10; height++ {
			want := width >= 1 && width <= 8 && height >= 1 && height <= 8
			c := impl.Chart{Width: width, Height: height, Knots: make([]int, max(width*height, 0))}
			if impl.IsChart(c) != want {
				t.Errorf("a Chart %d by %d is one: %v", width, height, !want)
			}
		}
	}
}

func TestKnotAt(t *testing.T) {
	for _, c := range allSizes(2) {
		for row := -2; row <= c.Height+1; row++ {
			for col := -2; col <= c.Width+1; col++ {
				color, ok := impl.KnotAt(c, row, col)
				if row < 0 || row >= c.Height || col < 0 || col >= c.Width {
					if ok || color != 0 {
						t.Fatalf("KnotAt(%v, %d, %d) = %d, %v", c, row, col, color, ok)
					}
				} else if !ok || color != c.Knots[row*c.Width+col] {
					t.Fatalf("KnotAt(%v, %d, %d) = %d, %v", c, row, col, color, ok)
				}
			}
		}
	}
	c := chartOf("bcd", "efb")
	for _, n := range []int{math.MinInt, -1, 3, 1 << 62, math.MaxInt} {
		for _, place := range [][2]int{{n, 0}, {0, n}, {n, n}, {1, n}, {n, 1}} {
			if color, ok := impl.KnotAt(c, place[0], place[1]); ok || color != 0 {
				t.Errorf("KnotAt%v = %d, %v", place, color, ok)
			}
		}
	}
	for _, bad := range invalidCharts() {
		if color, ok := impl.KnotAt(bad, 0, 0); ok || color != 0 {
			t.Errorf("KnotAt(%v, 0, 0) = %d, %v", bad, color, ok)
		}
	}
}

func TestPlainChart(t *testing.T) {
	for _, width := range oddNumbers() {
		for _, height := range oddNumbers() {
			for _, color := range oddNumbers() {
				c, ok := impl.PlainChart(width, height, color)
				if want := width >= 1 && width <= 8 && height >= 1 && height <= 8 && color >= 0 && color <= 5; ok != want {
					t.Fatalf("PlainChart(%d, %d, %d) = %v, %v", width, height, color, c, ok)
				} else if !ok {
					if !isNoChart(c) {
						t.Fatalf("PlainChart(%d, %d, %d) = %v, false", width, height, color, c)
					}
					continue
				}
				if !sameChart(c, impl.Chart{Width: width, Height: height, Knots: slices.Repeat([]int{color}, width*height)}) {
					t.Fatalf("PlainChart(%d, %d, %d) = %v", width, height, color, c)
				}
			}
		}
	}
}

func TestCountColors(t *testing.T) {
	cases := []struct {
		c    impl.Chart
		want []int
	}{
		{chartOf("aab", "bba"), []int{3, 3, 0, 0, 0, 0}},
		{chartOf("f"), []int{0, 0, 0, 0, 0, 1}},
		{chartOf("abcdef"), []int{1, 1, 1, 1, 1, 1}},
		{chartOf("f", "e", "f", "e", "d", "f"), []int{0, 0, 0, 1, 2, 3}},
	}
	for _, c := range cases {
		if counts, ok := impl.CountColors(c.c); !ok || !slices.Equal(counts, c.want) {
			t.Errorf("CountColors(%v) = %v, %v", c.c, counts, ok)
		}
	}
	for _, c := range allSizes(3) {
		want := make([]int, 6)
		for _, color := range c.Knots {
			want[color]++
		}
		if counts, ok := impl.CountColors(c); !ok || !slices.Equal(counts, want) {
			t.Errorf("CountColors(%v) = %v, %v", c, counts, ok)
		}
	}
	for _, bad := range invalidCharts() {
		if counts, ok := impl.CountColors(bad); ok || len(counts) != 0 {
			t.Errorf("CountColors(%v) = %v, %v", bad, counts, ok)
		}
	}
}

// liesWithin tells by plain counting whether each knot of a part is one of the Chart.
func liesWithin(c impl.Chart, row, col, height, width int) bool {
	return row >= 0 && col >= 0 && height >= 1 && width >= 1 && row+height-1 <= c.Height-1 && col+width-1 <= c.Width-1
}

func TestPartOf(t *testing.T) {
	for _, c := range allSizes(4) {
		for row := -1; row <= c.Height; row++ {
			for col := -1; col <= c.Width; col++ {
				for height := -1; height <= c.Height-row+1; height++ {
					for width := -1; width <= c.Width-col+1; width++ {
						part, ok := impl.PartOf(c, row, col, height, width)
						if !liesWithin(c, row, col, height, width) {
							if ok || !isNoChart(part) {
								t.Fatalf("PartOf(%v, %d, %d, %d, %d) = %v, %v", c, row, col, height, width, part, ok)
							}
							continue
						}
						want := impl.Chart{Width: width, Height: height}
						for i := range height {
							for j := range width {
								want.Knots = append(want.Knots, c.Knots[(row+i)*c.Width+col+j])
							}
						}
						if !ok || !sameChart(part, want) {
							t.Fatalf("PartOf(%v, %d, %d, %d, %d) = %v, %v", c, row, col, height, width, part, ok)
						}
					}
				}
			}
		}
	}
}

func TestPartOfRefuses(t *testing.T) {
	c := chartOf("abc", "def", "abc")
	for _, row := range oddNumbers() {
		for _, col := range oddNumbers() {
			for _, height := range oddNumbers() {
				for _, width := range oddNumbers() {
					fits := 0 <= row && row <= 2 && 0 <= col && col <= 2 && 1 <= height && height <= 3-row && 1 <= width && width <= 3-col
					if part, ok := impl.PartOf(c, row, col, height, width); ok != fits || !ok && !isNoChart(part) {
						t.Fatalf("PartOf(c, %d, %d, %d, %d) = %v, %v", row, col, height, width, part, ok)
					}
				}
			}
		}
	}
	for _, bad := range invalidCharts() {
		if part, ok := impl.PartOf(bad, 0, 0, 1, 1); ok || !isNoChart(part) {
			t.Errorf("PartOf(%v, 0, 0, 1, 1) = %v, %v", bad, part, ok)
		}
	}
}

func TestPartAtLastCorner(t *testing.T) {
	c := chartOf("abcd", "bcde", "cdef")
	if part, ok := impl.PartOf(c, 2, 3, 1, 1); !ok || !sameChart(part, chartOf("f")) {
		t.Errorf("the last knot is %v, %v", part, ok)
	}
	if part, ok := impl.PartOf(c, 1, 2, 2, 2); !ok || !sameChart(part, chartOf("de", "ef")) {
		t.Errorf("the last four knots are %v, %v", part, ok)
	}
	if part, ok := impl.PartOf(c, 0, 0, 3, 4); !ok || !sameChart(part, c) {
		t.Errorf("the whole is %v, %v", part, ok)
	}
	for _, p := range [][4]int{{2, 3, 2, 1}, {2, 3, 1, 2}, {2, 3, 2, 2}, {3, 3, 1, 1}, {2, 4, 1, 1}, {3, 4, 1, 1}, {2, 3, 0, 1}, {2, 3, 1, 0}, {1, 2, 3, 2}, {1, 2, 2, 3}, {0, 0, 4, 4}, {0, 0, 3, 5}} {
		if part, ok := impl.PartOf(c, p[0], p[1], p[2], p[3]); ok || !isNoChart(part) {
			t.Errorf("PartOf%v = %v, %v", p, part, ok)
		}
	}
	if whole, ok := impl.PutPart(c, chartOf("a"), 2, 3); !ok || !sameChart(whole, chartOf("abcd", "bcde", "cdea")) {
		t.Errorf("with another last knot: %v, %v", whole, ok)
	}
	if whole, ok := impl.PutPart(c, chartOf("ab", "fa"), 1, 2); !ok || !sameChart(whole, chartOf("abcd", "bcab", "cdfa")) {
		t.Errorf("with another last corner: %v, %v", whole, ok)
	}
	for _, put := range []struct {
		part     impl.Chart
		row, col int
	}{
		{chartOf("aa"), 2, 3}, {chartOf("a", "a"), 2, 3}, {chartOf("a"), 3, 3}, {chartOf("a"), 2, 4}, {chartOf("a"), 3, 0}, {chartOf("a"), 0, 4},
		{chartOf("ab", "fa"), 2, 2}, {chartOf("ab", "fa"), 1, 3}, {chartOf("aaaaa"), 0, 0}, {chartOf("a", "a", "a", "a"), 0, 0},
	} {
		if whole, ok := impl.PutPart(c, put.part, put.row, put.col); ok || !isNoChart(whole) {
			t.Errorf("PutPart(c, %v, %d, %d) = %v, %v", put.part, put.row, put.col, whole, ok)
		}
	}
}

// Each knot of the Chart with a part is that of the part, or else the one that it was.
func TestPutPart(t *testing.T) {
	for _, c := range allSizes(5) {
		for _, part := range allSizes(9) {
			for row := -1; row <= c.Height; row++ {
				for col := -1; col <= c.Width; col++ {
					whole, ok := impl.PutPart(c, part, row, col)
					if !liesWithin(c, row, col, part.Height, part.Width) {
						if ok || !isNoChart(whole) {
							t.Fatalf("PutPart(%v, %v, %d, %d) = %v, %v", c, part, row, col, whole, ok)
						}
						continue
					}
					want := cloneChart(c)
					for i := range part.Knots {
						want.Knots[(row+i/part.Width)*c.Width+col+i%part.Width] = part.Knots[i]
					}
					if !ok || !sameChart(whole, want) {
						t.Fatalf("PutPart(%v, %v, %d, %d) = %v, %v", c, part, row, col, whole, ok)
					}
				}
			}
		}
	}
}

func TestPutPartRefuses(t *testing.T) {
	c, part := chartOf("abc", "def"), chartOf("ff")
	for _, row := range oddNumbers() {
		for _, col := range oddNumbers() {
			fits := 0 <= row && row <= 1 && 0 <= col && col <= 1
			if whole, ok := impl.PutPart(c, part, row, col); ok != fits || !ok && !isNoChart(whole) {
				t.Errorf("PutPart(c, part, %d, %d) = %v, %v", row, col, whole, ok)
			}
		}
	}
	for _, bad := range invalidCharts() {
		if whole, ok := impl.PutPart(bad, chartOf("a"), 0, 0); ok || !isNoChart(whole) {
			t.Errorf("PutPart(%v, ..) = %v, %v", bad, whole, ok)
		}
		if whole, ok := impl.PutPart(mixedChart(8, 8, 1), bad, 0, 0); ok || !isNoChart(whole) {
			t.Errorf("PutPart(.., %v, 0, 0) = %v, %v", bad, whole, ok)
		}
		if whole, ok := impl.PutPart(bad, bad, 0, 0); ok || !isNoChart(whole) {
			t.Errorf("PutPart of two invalid Charts %v = %v, %v", bad, whole, ok)
		}
	}
}

// Promise 2: each part of Charts of all sizes, put back in its place, changes nothing.
func TestPartPutBackChangesNothing(t *testing.T) {
	for seed := range 3 {
		for _, c := range allSizes(seed) {
			given := cloneChart(c)
			for row := range c.Height {
				for col := range c.Width {
					for height := 1; row+height <= c.Height; height++ {
						for width := 1; col+width <= c.Width; width++ {
							part, ok := impl.PartOf(c, row, col, height, width)
							whole, fine := impl.PutPart(c, part, row, col)
							if !ok || !fine || !sameChart(whole, given) || !sameChart(c, given) {
								t.Fatalf("the part %d by %d of %v at %d, %d, put back, gives %v, %v, %v", width, height, given, row, col, whole, ok, fine)
							}
						}
					}
				}
			}
		}
	}
}

// A part that is put somewhere is the part that is there then.
func TestPutPartIsFoundAgain(t *testing.T) {
	for _, c := range allSizes(6) {
		for _, part := range allSizes(7) {
			for row := 0; row+part.Height <= c.Height; row++ {
				for col := 0; col+part.Width <= c.Width; col++ {
					whole, _ := impl.PutPart(c, part, row, col)
					if back, ok := impl.PartOf(whole, row, col, part.Height, part.Width); !ok || !sameChart(back, part) {
						t.Fatalf("%v put into %v at %d, %d is %v, %v", part, c, row, col, back, ok)
					}
				}
			}
		}
	}
}

func TestChangeColor(t *testing.T) {
	cases := []struct {
		c        impl.Chart
		from, to int
		want     impl.Chart
	}{
		{chartOf("aab", "bba"), 0, 2, chartOf("ccb", "bbc")},
		{chartOf("aab", "bba"), 0, 1, chartOf("bbb", "bbb")},
		{chartOf("aab", "bba"), 1, 5, chartOf("aaf", "ffa")},
		{chartOf("aab", "bba"), 3, 4, chartOf("aab", "bba")},
		{chartOf("aab", "bba"), 1, 1, chartOf("aab", "bba")},
		{chartOf("f"), 5, 0, chartOf("a")},
		{chartOf("abcdef", "fedcba"), 5, 4, chartOf("abcdee", "eedcba")},
	}
	for _, c := range cases {
		if changed, ok := impl.ChangeColor(c.c, c.from, c.to); !ok || !sameChart(changed, c.want) {
			t.Errorf("ChangeColor(%v, %d, %d) = %v, %v", c.c, c.from, c.to, changed, ok)
		}
	}
	for _, c := range allSizes(8) {
		for _, from := range oddNumbers() {
			for _, to := range oddNumbers() {
				changed, ok := impl.ChangeColor(c, from, to)
				if valid := from >= 0 && from <= 5 && to >= 0 && to <= 5; ok != valid || !ok && !isNoChart(changed) {
					t.Fatalf("ChangeColor(%v, %d, %d) = %v, %v", c, from, to, changed, ok)
				}
				for i := range changed.Knots {
					if c.Knots[i] == from && changed.Knots[i] != to || c.Knots[i] != from && changed.Knots[i] != c.Knots[i] {
						t.Fatalf("ChangeColor(%v, %d, %d) = %v", c, from, to, changed)
					}
				}
			}
		}
	}
	for _, bad := range invalidCharts() {
		if changed, ok := impl.ChangeColor(bad, 0, 1); ok || !isNoChart(changed) {
			t.Errorf("ChangeColor(%v, 0, 1) = %v, %v", bad, changed, ok)
		}
	}
}

func TestLongestRun(t *testing.T) {
	cases := []struct {
		c        impl.Chart
		run, row int
	}{
		{chartOf("aab", "bba"), 2, 0},
		{chartOf("a"), 1, 0},
		{chartOf("abc", "bcd"), 1, 0},
		{chartOf("a", "a", "a"), 1, 0},
		{chartOf("aba", "aab", "baa"), 2, 1},
		{chartOf("aabb", "abbb", "bbba"), 3, 1},
		{chartOf("abab", "baba", "aaab", "bbbb"), 4, 3},
		{chartOf("ab", "bb", "bb"), 2, 1},
		{chartOf("aabaa", "aaaab", "baaaa"), 4, 1},
		{chartOf("aaabaa", "ababab"), 3, 0},
		{chartOf("aabaaa", "ababab"), 3, 0},
		{chartOf("abababaa", "aaaaaaaa", "bbbbbbbb"), 8, 1},
		{chartOf("ffffffff"), 8, 0},
	}
	for _, c := range cases {
		if run, row, ok := impl.LongestRun(c.c); !ok || run != c.run || row != c.row {
			t.Errorf("LongestRun(%v) = %d, %d, %v", c.c, run, row, ok)
		}
	}
	for _, c := range append(allSizes(1), allSizes(10)...) {
		wantRun, wantRow := runByText(c)
		if run, row, ok := impl.LongestRun(c); !ok || run != wantRun || row != wantRow {
			t.Errorf("LongestRun(%v) = %d, %d, %v", c, run, row, ok)
		}
	}
	for _, bad := range invalidCharts() {
		if run, row, ok := impl.LongestRun(bad); ok || run != 0 || row != 0 {
			t.Errorf("LongestRun(%v) = %d, %d, %v", bad, run, row, ok)
		}
	}
}

// runByText finds the longest run by searching the rows for longer and longer runs of one letter.
func runByText(c impl.Chart) (int, int) {
	run, first := 0, 0
	for row := range c.Height {
		var text strings.Builder
		for _, color := range c.Knots[row*c.Width : (row+1)*c.Width] {
			text.WriteByte("abcdef"[color])
		}
		for color := range impl.MaxColors {
			for strings.Contains(text.String(), strings.Repeat("abcdef"[color:color+1], run+1)) {
				run, first = run+1, row
			}
		}
	}
	return run, first
}

func TestChartText(t *testing.T) {
	for text, c := range map[string]impl.Chart{
		"a":        {Width: 1, Height: 1, Knots: []int{0}},
		"f":        {Width: 1, Height: 1, Knots: []int{5}},
		"abcdef":   {Width: 6, Height: 1, Knots: []int{0, 1, 2, 3, 4, 5}},
		"a/b/c":    {Width: 1, Height: 3, Knots: []int{0, 1, 2}},
		"aab/bba":  {Width: 3, Height: 2, Knots: []int{0, 0, 1, 1, 1, 0}},
		"fe/dc/ba": {Width: 2, Height: 3, Knots: []int{5, 4, 3, 2, 1, 0}},
		"cccccccc": {Width: 8, Height: 1, Knots: slices.Repeat([]int{2}, 8)},
	} {
		if got, ok := impl.ChartText(c); !ok || got != text {
			t.Errorf("ChartText(%v) = %q, %v", c, got, ok)
		}
		if back, ok := impl.ParseChart(text); !ok || !sameChart(back, c) {
			t.Errorf("ParseChart(%q) = %v, %v", text, back, ok)
		}
	}
	for _, bad := range invalidCharts() {
		if text, ok := impl.ChartText(bad); ok || text != "" {
			t.Errorf("ChartText(%v) = %q, %v", bad, text, ok)
		}
	}
}

func TestChartTextsRoundTrip(t *testing.T) {
	for seed := range 5 {
		for _, c := range allSizes(seed) {
			text, ok := impl.ChartText(c)
			if !ok || len(text) != c.Height*(c.Width+1)-1 || strings.Count(text, "/") != c.Height-1 {
				t.Fatalf("ChartText(%v) = %q, %v", c, text, ok)
			}
			if back, ok := impl.ParseChart(text); !ok || !sameChart(back, c) {
				t.Fatalf("ParseChart(%q) = %v, %v", text, back, ok)
			}
		}
	}
}

func TestParseChartRefuses(t *testing.T) {
	row := strings.Repeat("a", 8)
	for _, text := range []string{
		"", "/", "//", "a/", "/a", "a//a", "/a/", "ag", "g", "`", "A", "F", "0", " ", "a ", " a", "a\n", "a\x00", "\x00", "\xff", "\xe1", "a,b",
		"ab/a", "a/ab", "ab/", "/ab", "ab/a/ab", "ab/abc", "ab/ab/", "ab/ab/a", "a\\b", "a/b/\xc3\xa9",
		row + "a", "a/a/a/a/a/a/a/a/a", row + "/" + row + "a", strings.Repeat(row+"/", 8), strings.Repeat(row+"/", 8) + row,
		strings.Repeat(row, 8), strings.Repeat("a", 63) + "/" + strings.Repeat("a", 63), strings.Repeat("a", impl.MaxString),
		strings.Repeat("a", impl.MaxString+1), strings.Repeat("a/", impl.MaxString), strings.Repeat("/", 5000),
	} {
		if c, ok := impl.ParseChart(text); ok || !isNoChart(c) {
			t.Errorf("ParseChart(%.20q) = %v, %v", text, c, ok)
		}
	}
	for _, text := range []string{row, "a/a/a/a/a/a/a/a", strings.Repeat(row+"/", 7) + row} {
		if c, ok := impl.ParseChart(text); !ok || c.Width*c.Height != strings.Count(text, "a") {
			t.Errorf("ParseChart(%q) = %v, %v", text, c, ok)
		}
	}
}

// Of all short texts, ParseChart takes exactly those that ChartText makes.
func TestParseChartTakesOnlyChartTexts(t *testing.T) {
	taken := 0
	for _, text := range append(textsOver("af/g`", 5), oddTexts()...) {
		c, ok := impl.ParseChart(text)
		if !ok {
			if !isNoChart(c) {
				t.Errorf("ParseChart(%.20q) = %v, false", text, c)
			}
			continue
		}
		taken++
		if back, fine := impl.ChartText(c); !fine || back != text {
			t.Errorf("ParseChart(%q) = %v, which is %q", text, c, back)
		}
	}
	// One row of 1..5 knots, two rows of one or of two knots, and three rows of one, all of two colors.
	if want := 2 + 4 + 8 + 16 + 32 + 4 + 16 + 8; taken != want {
		t.Errorf("%d texts are Charts, not %d", taken, want)
	}
	for letter := range 256 {
		text := "a" + string([]byte{byte(letter)})
		c, ok := impl.ParseChart(text)
		if valid := letter >= 'a' && letter <= 'f'; ok != valid || ok && !slices.Equal(c.Knots, []int{0, letter - 'a'}) || !ok && !isNoChart(c) {
			t.Errorf("ParseChart(%q) = %v, %v", text, c, ok)
		}
	}
}

// chartResults calls each function that returns Charts or a slice, and returns the slices of all results.
func chartResults(c, part impl.Chart) [][]int {
	plain, _ := impl.PlainChart(c.Width, c.Height, 1)
	counts, _ := impl.CountColors(c)
	whole, _ := impl.PartOf(c, 0, 0, c.Height, c.Width)
	corner, _ := impl.PartOf(c, c.Height-1, 0, 1, c.Width)
	put, _ := impl.PutPart(c, part, 0, 0)
	all, _ := impl.PutPart(c, c, 0, 0)
	changed, _ := impl.ChangeColor(c, 0, 1)
	kept, _ := impl.ChangeColor(c, 2, 2)
	text, _ := impl.ChartText(c)
	parsed, _ := impl.ParseChart(text)
	return [][]int{plain.Knots, counts, whole.Knots, corner.Knots, put.Knots, all.Knots, changed.Knots, kept.Knots, parsed.Knots}
}

func TestChartFunctionsChangeNoArgument(t *testing.T) {
	for _, c := range allSizes(11) {
		// What lies beyond the length of a slice stays as it is, too.
		long := append(slices.Clone(c.Knots), 77, 78, 79)
		c.Knots = long[:len(c.Knots)]
		part := impl.Chart{Width: 1, Height: 1, Knots: []int{5, 77}[:1]}
		given := slices.Clone(long)
		for i, knots := range chartResults(c, part) {
			if len(knots) == 0 {
				t.Fatalf("result %d of %v is empty", i, c)
			}
			if slices.Max(knots) > 64 {
				t.Errorf("result %d of %v is %v", i, c, knots)
			}
		}
		impl.IsChart(c)
		impl.KnotAt(c, 0, 0)
		impl.LongestRun(c)
		if !slices.Equal(long, given) || !slices.Equal(part.Knots[:2], []int{5, 77}) {
			t.Errorf("%v has become %v", given, long)
		}
	}
}

// checkSeparate writes a mark, which none of the results holds, to each of them, over all of its memory, and checks that no other one changes.
func checkSeparate[T comparable](t *testing.T, results [][]T, mark T) {
	t.Helper()
	for i, written := range results {
		var kept [][]T
		for _, list := range results {
			kept = append(kept, slices.Clone(list))
		}
		for k := range written[:cap(written)] {
			written[:cap(written)][k] = mark
		}
		for j, list := range results {
			if j != i && !slices.Equal(list, kept[j]) {
				t.Fatalf("results %d and %d share memory: %v becomes %v", i, j, kept[j], list)
			}
		}
	}
}

// Whatever is written to one result, over all of its memory, neither another one nor an argument changes.
func TestChartResultsAreSeparate(t *testing.T) {
	for _, c := range allSizes(12) {
		part := chartOf("f")
		givenC, givenPart := cloneChart(c), cloneChart(part)
		results := append(chartResults(c, part), chartResults(c, part)...)
		checkSeparate(t, results, -1)
		if !sameChart(c, givenC) || !sameChart(part, givenPart) {
			t.Errorf("%v has become %v, or the part %v", givenC, c, part)
		}
	}
}

// Each function returns for odd numbers and odd Charts, and the same at each call.
func TestChartFunctionsAreTotal(t *testing.T) {
	charts := append(invalidCharts(), mixedChart(8, 8, 1), chartOf("a"), chartOf("ab", "cd"))
	for _, c := range charts {
		for _, a := range oddNumbers() {
			for _, b := range oddNumbers() {
				color, ok := impl.KnotAt(c, a, b)
				if again, fine := impl.KnotAt(c, a, b); again != color || fine != ok {
					t.Errorf("KnotAt(%v, %d, %d) differs from call to call", c, a, b)
				}
				part, ok := impl.PartOf(c, a, b, b, a)
				if again, fine := impl.PartOf(c, a, b, b, a); !sameChart(again, part) || fine != ok {
					t.Errorf("PartOf(%v, %d, %d, %d, %d) differs from call to call", c, a, b, b, a)
				}
				for _, other := range charts {
					whole, ok := impl.PutPart(c, other, a, b)
					if again, fine := impl.PutPart(c, other, a, b); !sameChart(again, whole) || fine != ok {
						t.Errorf("PutPart(%v, %v, %d, %d) differs from call to call", c, other, a, b)
					}
				}
			}
		}
	}
}

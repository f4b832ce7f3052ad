package tests

import (
	"fmt"
	"math"
	"slices"
	"testing"

	"loop.example/g01023/impl"
)

// areasByLabels gives each knot the number of its place, lets each knot take the smallest number among it and the knots next to it with the same color until nothing changes, and then counts the different numbers.
func areasByLabels(c impl.Chart) []int {
	labels := make([]int, len(c.Knots))
	for i := range labels {
		labels[i] = i
	}
	for changed := true; changed; {
		changed = false
		for _, pair := range touchingPairs(c) {
			a, b := pair[0], pair[1]
			if c.Knots[a] == c.Knots[b] && labels[a] != labels[b] {
				labels[a] = min(labels[a], labels[b])
				labels[b] = labels[a]
				changed = true
			}
		}
	}
	firsts := slices.Clone(labels)
	slices.Sort(firsts)
	firsts = slices.Compact(firsts)
	for i, label := range labels {
		labels[i] = slices.Index(firsts, label)
	}
	return labels
}

// touchingPairs returns the pairs of places that lie side by side or one below the other.
func touchingPairs(c impl.Chart) [][2]int {
	var pairs [][2]int
	for row := range c.Height {
		for col := range c.Width {
			place := row*c.Width + col
			if col > 0 {
				pairs = append(pairs, [2]int{place - 1, place})
			}
			if row > 0 {
				pairs = append(pairs, [2]int{place - c.Width, place})
			}
		}
	}
	return pairs
}

// sizesByLabels counts the knots of each area.
func sizesByLabels(c impl.Chart) []int {
	var sizes []int
	for _, area := range areasByLabels(c) {
		for len(sizes) <= area {
			sizes = append(sizes, 0)
		}
		sizes[area]++
	}
	return sizes
}

// sizesOfColor counts the knots of each area with a color.
func sizesOfColor(c impl.Chart, color int) []int {
	labels := areasByLabels(c)
	var sizes []int
	for area, size := range sizesByLabels(c) {
		if c.Knots[slices.Index(labels, area)] == color {
			sizes = append(sizes, size)
		}
	}
	return sizes
}

// patchyChart returns a Chart with a size in the first colors, in which a knot often has the color of the one before it or above it.
func patchyChart(width, height, colors, seed int) impl.Chart {
	next := dyeNumbers(seed)
	c := impl.Chart{Width: width, Height: height}
	for i := range width * height {
		color := next(colors)
		switch kind := next(4); {
		case kind == 0 && i%width > 0:
			color = c.Knots[i-1]
		case kind == 1 && i >= width:
			color = c.Knots[i-width]
		}
		c.Knots = append(c.Knots, color)
	}
	return c
}

// windingCharts returns Charts with areas whose shapes are easily taken for several ones, or for parts of others.
func windingCharts() []impl.Chart {
	return []impl.Chart{
		chartOf("aaaaaaaa", "bbbbbbba", "aaaaaaba", "abbbbaba", "abaababa", "abaaaaba", "abbbbbba", "aaaaaaaa"),
		chartOf("abababab", "abababab", "abababab", "abababab", "abababab", "abababab", "abababab", "aaaaaaaa"),
		chartOf("bbbbbbba", "aaaaaaaa", "abbbbbbb", "aaaaaaaa", "bbbbbbba", "aaaaaaaa", "abbbbbbb", "aaaaaaaa"),
		chartOf("abbbbbba", "babbbbab", "bbabbabb", "bbbaabbb", "bbbaabbb", "bbabbabb", "babbbbab", "abbbbbba"),
		chartOf("bbbbbaaa", "aaabbabb", "babbbabb", "baaaaabb"),
		chartOf("bbba", "baba", "baaa", "bbbb"),
		chartOf("abc", "bcd", "cde", "def"),
		chartOf("cca", "bca", "bcc", "bbb"),
		chartOf("aba", "bab", "aba"),
		chartOf("aab", "baa", "aba"),
	}
}

// checkeredChart returns the Chart with a size in two colors, of which no two knots next to each other have the same.
func checkeredChart(width, height, a, b int) impl.Chart {
	c := impl.Chart{Width: width, Height: height}
	for i := range width * height {
		c.Knots = append(c.Knots, []int{a, b}[(i/width+i%width)%2])
	}
	return c
}

// areaCharts returns Charts of all sizes: mixed, plain, checkered, and with areas of many shapes.
func areaCharts() []impl.Chart {
	charts := slices.Concat(evenCharts(), windingCharts(), manySmallCharts())
	for width := 1; width <= 8; width++ {
		for height := 1; height <= 8; height++ {
			charts = append(charts, checkeredChart(width, height, 4, 1))
			for colors := 2; colors <= 6; colors++ {
				charts = append(charts, patchyChart(width, height, colors, width*100+height*10+colors))
			}
		}
	}
	return charts
}

func TestLotConstants(t *testing.T) {
	if impl.MaxLots != 6 {
		t.Error("limit", impl.MaxLots)
	}
}

func TestAreasOf(t *testing.T) {
	for _, c := range []struct {
		chart impl.Chart
		want  []int
	}{
		{chartOf("a"), []int{0}}, {chartOf("f"), []int{0}}, {chartOf("aa", "aa"), []int{0, 0, 0, 0}},
		{chartOf("aab", "bba"), []int{0, 0, 1, 2, 2, 3}},
		// Knots that only touch at a corner are apart.
		{chartOf("ab", "ba"), []int{0, 1, 2, 3}}, {chartOf("ba", "ab"), []int{0, 1, 2, 3}},
		// The end of a row and the beginning of the next one are apart.
		{chartOf("bca", "adb"), []int{0, 1, 2, 3, 4, 5}}, {chartOf("bca", "acb"), []int{0, 1, 2, 3, 1, 4}},
		// An area in whose first row two pieces seem to be apart has the number of the first one.
		{chartOf("aba", "aaa"), []int{0, 1, 0, 0, 0, 0}}, {chartOf("abac", "aaac"), []int{0, 1, 0, 2, 0, 0, 0, 2}},
		{chartOf("cac", "aac"), []int{0, 1, 2, 1, 1, 2}},
		{chartOf("bbba", "baba", "baaa", "bbbb"), []int{0, 0, 0, 1, 0, 1, 0, 1, 0, 1, 1, 1, 0, 0, 0, 0}},
		{chartOf("aaa", "aba", "aaa"), []int{0, 0, 0, 0, 1, 0, 0, 0, 0}},
		{chartOf("abcdefab"), []int{0, 1, 2, 3, 4, 5, 6, 7}}, {chartOf("a", "a", "b", "a"), []int{0, 0, 1, 2}},
	} {
		if areas, ok := impl.AreasOf(c.chart); !ok || !slices.Equal(areas, c.want) {
			t.Errorf("AreasOf(%v) = %v, %v, not %v", c.chart, areas, ok, c.want)
		}
	}
	for _, c := range areaCharts() {
		want := areasByLabels(c)
		if areas, ok := impl.AreasOf(c); !ok || !slices.Equal(areas, want) {
			t.Fatalf("AreasOf(%v) = %v, %v, not %v", c, areas, ok, want)
		}
		if n, ok := impl.AreaCount(c); !ok || n != slices.Max(want)+1 {
			t.Fatalf("AreaCount(%v) = %d, %v, not %d", c, n, ok, slices.Max(want)+1)
		}
	}
}

func TestAreaCount(t *testing.T) {
	for _, c := range []struct {
		chart impl.Chart
		want  int
	}{
		{chartOf("a"), 1}, {chartOf("aab", "bba"), 4}, {chartOf("aba", "aaa"), 2}, {chartOf("abcdefab"), 8},
		{checkeredChart(8, 8, 0, 1), 64}, {checkeredChart(1, 8, 5, 0), 8}, {patchyChart(8, 8, 1, 0), 1},
		{windingCharts()[0], 2}, {windingCharts()[1], 5}, {windingCharts()[2], 5},
	} {
		if n, ok := impl.AreaCount(c.chart); !ok || n != c.want {
			t.Errorf("AreaCount(%v) = %d, %v, not %d", c.chart, n, ok, c.want)
		}
	}
}

func TestAreaSizes(t *testing.T) {
	for _, c := range []struct {
		chart impl.Chart
		color int
		want  []int
	}{
		{chartOf("aab", "bba"), 0, []int{2, 1}}, {chartOf("aab", "bba"), 1, []int{1, 2}},
		{chartOf("aba", "aaa"), 0, []int{5}}, {chartOf("aba", "aaa"), 1, []int{1}},
		{chartOf("abbafff"), 5, []int{3}}, {chartOf("cac", "aac"), 2, []int{1, 2}}, {chartOf("cac", "aac"), 0, []int{3}},
		// Without areas.
		{chartOf("aab", "bba"), 2, nil}, {chartOf("aab", "bba"), 5, nil}, {chartOf("f"), 0, nil},
		{patchyChart(8, 8, 1, 0), 0, []int{64}}, {checkeredChart(8, 8, 0, 5), 5, slices.Repeat([]int{1}, 32)},
		{windingCharts()[0], 0, []int{40}}, {windingCharts()[0], 1, []int{24}},
	} {
		if sizes, ok := impl.AreaSizes(c.chart, c.color); !ok || !slices.Equal(sizes, c.want) {
			t.Errorf("AreaSizes(%v, %d) = %v, %v, not %v", c.chart, c.color, sizes, ok, c.want)
		}
	}
	for _, c := range areaCharts() {
		for _, color := range oddNumbers() {
			var want []int
			valid := color >= 0 && color <= 5
			if valid {
				want = sizesOfColor(c, color)
			}
			if sizes, ok := impl.AreaSizes(c, color); ok != valid || !slices.Equal(sizes, want) {
				t.Fatalf("AreaSizes(%v, %d) = %v, %v, not %v", c, color, sizes, ok, want)
			}
		}
	}
}

// Promise 12, its first half: each knot is in one area, and the areas of all colors together have all knots.
func TestAreasHaveAllKnots(t *testing.T) {
	for _, c := range areaCharts() {
		areas, ok := impl.AreasOf(c)
		count, fine := impl.AreaCount(c)
		if !ok || !fine || len(areas) != c.Width*c.Height {
			t.Fatalf("%v has %d areas, %v", c, count, areas)
		}
		inArea := make([]int, count)
		for _, area := range areas {
			if area < 0 || area >= count {
				t.Fatalf("%v has %d areas, %v", c, count, areas)
			}
			inArea[area]++
		}
		knots, number := 0, 0
		for color := range 6 {
			sizes, ok := impl.AreaSizes(c, color)
			together := 0
			for _, size := range sizes {
				together += size
			}
			if !ok || together != knotsOf(c, color) {
				t.Fatalf("the color %d of %v has areas with %v knots", color, c, sizes)
			}
			knots, number = knots+together, number+len(sizes)
		}
		if knots != len(c.Knots) || number != count || slices.Contains(inArea, 0) {
			t.Fatalf("%v has %d areas with %v knots, but by colors %d with %d", c, count, inArea, number, knots)
		}
	}
}

// neighborsByPairs looks at all pairs of places next to each other for each of the areas in turn.
func neighborsByPairs(c impl.Chart, area int) []int {
	labels := areasByLabels(c)
	var neighbors []int
	for other := range slices.Max(labels) + 1 {
		touches := func(pair [2]int) bool {
			a, b := labels[pair[0]], labels[pair[1]]
			return a == area && b == other || a == other && b == area
		}
		if other != area && slices.ContainsFunc(touchingPairs(c), touches) {
			neighbors = append(neighbors, other)
		}
	}
	return neighbors
}

func TestAreaNeighbors(t *testing.T) {
	for _, c := range []struct {
		chart impl.Chart
		area  int
		want  []int
	}{
		{chartOf("aab", "bba"), 0, []int{1, 2}}, {chartOf("aab", "bba"), 1, []int{0, 3}},
		{chartOf("aab", "bba"), 2, []int{0, 3}}, {chartOf("aab", "bba"), 3, []int{1, 2}},
		// Each neighbor once, and not the ones that only touch at a corner.
		{chartOf("aba", "aaa"), 0, []int{1}}, {chartOf("aba", "aaa"), 1, []int{0}},
		{chartOf("abc", "bcd", "cde"), 4, []int{1, 3, 5, 7}}, {chartOf("cab", "dab", "eab"), 1, []int{0, 2, 3, 4}},
		{chartOf("cab", "dab", "eab"), 2, []int{1}}, {chartOf("cab", "dab", "eab"), 4, []int{1, 3}},
		// No neighbors.
		{chartOf("a"), 0, nil}, {chartOf("aa", "aa"), 0, nil},
		// From one side each.
		{chartOf("ab"), 0, []int{1}}, {chartOf("ab"), 1, []int{0}}, {chartOf("a", "b"), 0, []int{1}}, {chartOf("a", "b"), 1, []int{0}},
		// The end of a row and the beginning of the next one are no neighbors.
		{chartOf("aab", "caa"), 1, []int{0}}, {chartOf("aab", "caa"), 2, []int{0}},
	} {
		if neighbors, ok := impl.AreaNeighbors(c.chart, c.area); !ok || !slices.Equal(neighbors, c.want) {
			t.Errorf("AreaNeighbors(%v, %d) = %v, %v, not %v", c.chart, c.area, neighbors, ok, c.want)
		}
	}
	for i, c := range areaCharts() {
		// The greater Charts take long.
		if len(c.Knots) > 16 && i%5 > 0 {
			continue
		}
		for area := range len(sizesByLabels(c)) {
			want := neighborsByPairs(c, area)
			if neighbors, ok := impl.AreaNeighbors(c, area); !ok || !slices.Equal(neighbors, want) {
				t.Fatalf("AreaNeighbors(%v, %d) = %v, %v, not %v", c, area, neighbors, ok, want)
			}
		}
	}
}

func TestGreatestArea(t *testing.T) {
	for _, c := range []struct {
		chart       impl.Chart
		area, knots int
	}{
		{chartOf("a"), 0, 1}, {chartOf("aab", "bba"), 0, 2}, {chartOf("abb", "bab"), 1, 3}, {chartOf("abbccc"), 2, 3},
		{chartOf("abbccd"), 1, 2}, {chartOf("abcdefab"), 0, 1}, {chartOf("abab", "abab"), 0, 2}, {chartOf("abb", "acc"), 0, 2}, {chartOf("aba", "aaa"), 0, 5},
		// The area with the most knots is not the color with the most.
		{chartOf("abacaabb", "bbabbbbb"), 5, 7}, {chartOf("abbacaca"), 1, 2}, {chartOf("acabbaca"), 3, 2},
		{patchyChart(8, 8, 1, 0), 0, 64}, {checkeredChart(8, 8, 3, 2), 0, 1}, {windingCharts()[0], 0, 40},
	} {
		if area, knots, ok := impl.GreatestArea(c.chart); !ok || area != c.area || knots != c.knots {
			t.Errorf("GreatestArea(%v) = %d, %d, %v, not %d, %d", c.chart, area, knots, ok, c.area, c.knots)
		}
	}
	for _, c := range areaCharts() {
		sizes := sizesByLabels(c)
		most := slices.Max(sizes)
		if area, knots, ok := impl.GreatestArea(c); !ok || area != slices.Index(sizes, most) || knots != most {
			t.Fatalf("GreatestArea(%v) = %d, %d, %v, of %v", c, area, knots, ok, sizes)
		}
	}
}

func TestFillArea(t *testing.T) {
	for _, c := range []struct {
		chart       impl.Chart
		area, color int
		want        impl.Chart
	}{
		{chartOf("aab", "bba"), 1, 0, chartOf("aaa", "bba")}, {chartOf("aab", "bba"), 0, 5, chartOf("ffb", "bba")},
		{chartOf("aab", "bba"), 3, 2, chartOf("aab", "bbc")}, {chartOf("aab", "bba"), 2, 3, chartOf("aab", "dda")},
		// It has the color already.
		{chartOf("aab", "bba"), 0, 0, chartOf("aab", "bba")}, {chartOf("aab", "bba"), 1, 1, chartOf("aab", "bba")},
		{chartOf("a"), 0, 1, chartOf("b")}, {chartOf("f"), 0, 0, chartOf("a")},
		{chartOf("aba", "aaa"), 0, 1, chartOf("bbb", "bbb")}, {chartOf("aba", "aaa"), 1, 4, chartOf("aea", "aaa")},
		{chartOf("ab", "ba"), 2, 0, chartOf("ab", "aa")},
	} {
		if filled, ok := impl.FillArea(c.chart, c.area, c.color); !ok || !sameChart(filled, c.want) {
			t.Errorf("FillArea(%v, %d, %d) = %v, %v, not %v", c.chart, c.area, c.color, filled, ok, c.want)
		}
	}
	for _, c := range areaCharts() {
		labels := areasByLabels(c)
		for area := range slices.Max(labels) + 1 {
			color := (area*5 + len(c.Knots)) % 6
			want := cloneChart(c)
			for place, label := range labels {
				if label == area {
					want.Knots[place] = color
				}
			}
			if filled, ok := impl.FillArea(c, area, color); !ok || !sameChart(filled, want) {
				t.Fatalf("FillArea(%v, %d, %d) = %v, %v, not %v", c, area, color, filled, ok, want)
			}
		}
	}
}

// Areas from 0 to below the number of all occur, and no others; filling takes colors in 0..5, and no others.
func TestAreasThatDoNotOccur(t *testing.T) {
	for _, c := range slices.Concat(allSizes(3), windingCharts(), manySmallCharts()[:200]) {
		count := len(sizesByLabels(c))
		for _, area := range append(oddNumbers(), count-2, count-1, count, count+1, -count, len(c.Knots), 1<<32+count-1, 63) {
			occurs := area >= 0 && area < count
			if neighbors, ok := impl.AreaNeighbors(c, area); ok != occurs || !ok && len(neighbors) != 0 {
				t.Fatalf("AreaNeighbors(%v, %d) = %v, %v", c, area, neighbors, ok)
			}
			for _, color := range append(oddNumbers(), 1<<32+5) {
				filled, ok := impl.FillArea(c, area, color)
				if ok != (occurs && color >= 0 && color <= 5) || !ok && !isNoChart(filled) {
					t.Fatalf("FillArea(%v, %d, %d) = %v, %v", c, area, color, filled, ok)
				}
			}
		}
	}
}

// areaChart returns a Chart with areas of the color 0 of at most 8 sizes in their order, two in each second row, and the color 1 around them; two sizes in a row may be 7 together.
func areaChart(sizes ...int) impl.Chart {
	c := impl.Chart{Width: 8, Height: 8, Knots: slices.Repeat([]int{1}, 64)}
	for i, size := range sizes {
		from := i / 2 * 16
		if i%2 == 1 {
			from += sizes[i-1] + 1
		}
		for place := from; place < from+size; place++ {
			c.Knots[place] = 0
		}
	}
	return c
}

// isUsedWell tells whether each of a list's lots occurs, and none is used for more knots than it has, adding up for one lot at a time.
func isUsedWell(sizes, lots, assignment []int) bool {
	if len(assignment) != len(sizes) {
		return false
	}
	used := 0
	for lot, has := range lots {
		knots := 0
		for i, size := range sizes {
			if assignment[i] == lot {
				knots += size
				used++
			}
		}
		if knots > has {
			return false
		}
	}
	return used == len(sizes)
}

// hasRoom tells whether there is an assignment, from all the different states of the lots after each area.
func hasRoom(sizes, lots []int) bool {
	states := map[[6]int]bool{stateOf(lots): true}
	for _, size := range sizes {
		after := map[[6]int]bool{}
		for state := range states {
			for lot, left := range state {
				if left >= size {
					next := state
					next[lot] -= size
					after[stateOf(next[:])] = true
				}
			}
		}
		states = after
	}
	return len(states) > 0
}

// stateOf returns what is left of the lots, in ascending order, since it does not matter which lot has it.
func stateOf(left []int) [6]int {
	var state [6]int
	copy(state[:], left)
	slices.Sort(state[:])
	return state
}

// firstByRoom takes for each area the first lot after which there is room for all later ones, or returns nil if there is none.
func firstByRoom(sizes, lots []int) []int {
	left, assignment := slices.Clone(lots), []int{}
	for i, size := range sizes {
		lot := slices.IndexFunc(left, func(has int) bool {
			if has < size {
				return false
			}
			after := slices.Clone(left)
			after[slices.Index(left, has)] -= size
			return hasRoom(sizes[i+1:], after)
		})
		if lot < 0 {
			return nil
		}
		left[lot] -= size
		assignment = append(assignment, lot)
	}
	return assignment
}

// fewestByRoom tries all sets of lots, or returns -1 if there is no assignment.
func fewestByRoom(sizes, lots []int) int {
	fewest := -1
	for set := range 1 << len(lots) {
		var some []int
		for lot, has := range lots {
			if set>>lot%2 == 1 {
				some = append(some, has)
			}
		}
		if (fewest < 0 || len(some) < fewest) && hasRoom(sizes, some) {
			fewest = len(some)
		}
	}
	return fewest
}

// firstByTrial tries all lists of lots in lexicographic order, and tells the first assignment, or nil, and the smallest number of different lots of any, or -1.
func firstByTrial(sizes, lots []int) ([]int, int) {
	var first []int
	fewest := -1
	list := make([]int, len(sizes))
	for {
		if isUsedWell(sizes, lots, list) {
			if first == nil {
				first = slices.Clone(list)
			}
			different := slices.Clone(list)
			slices.Sort(different)
			if n := len(slices.Compact(different)); fewest < 0 || n < fewest {
				fewest = n
			}
		}
		at := len(list) - 1
		for at >= 0 && list[at] == len(lots)-1 {
			list[at] = 0
			at--
		}
		if at < 0 {
			return first, fewest
		}
		list[at]++
	}
}

// checkAssigned checks the results for a color against what is wanted; first is nil, and fewest -1, if there is no assignment. It is also promise 12, its second half: no lot is used for more knots than it has.
func checkAssigned(t *testing.T, c impl.Chart, color int, lots, first []int, fewest int) {
	t.Helper()
	givenChart, givenLots := cloneChart(c), slices.Clone(lots)
	assignment, ok := impl.FirstAssignment(c, color, lots)
	if ok != (first != nil) || !slices.Equal(assignment, first) {
		t.Fatalf("FirstAssignment(%v, %d, %v) = %v, %v, not %v", c, color, lots, assignment, ok, first)
	}
	if ok && !isUsedWell(sizesOfColor(c, color), lots, assignment) {
		t.Fatalf("FirstAssignment(%v, %d, %v) = %v uses a lot for more knots than it has", c, color, lots, assignment)
	}
	if n, ok := impl.FewestLots(c, color, lots); ok != (fewest >= 0) || n != max(fewest, 0) {
		t.Fatalf("FewestLots(%v, %d, %v) = %d, %v, not %d", c, color, lots, n, ok, fewest)
	}
	if is, ok := impl.IsAssignment(c, color, lots, first); first != nil && (!ok || !is) {
		t.Fatalf("IsAssignment(%v, %d, %v, %v) = %v, %v", c, color, lots, first, is, ok)
	}
	if !sameChart(c, givenChart) || !slices.Equal(lots, givenLots) {
		t.Fatalf("%v and %v have become %v and %v", givenChart, givenLots, c, lots)
	}
}

func TestAssignments(t *testing.T) {
	for _, c := range []struct {
		chart       impl.Chart
		lots, first []int
		fewest      int
	}{
		{chartOf("aab", "bba"), []int{2, 1}, []int{0, 1}, 2}, {chartOf("aab", "bba"), []int{2, 3}, []int{0, 1}, 1},
		{chartOf("aab", "bba"), []int{1, 1}, nil, -1}, {chartOf("aab", "bba"), []int{1, 2}, []int{1, 0}, 2},
		// A lot is exactly used up, or lacks one knot.
		{chartOf("aab", "bba"), []int{3}, []int{0, 0}, 1}, {chartOf("aab", "bba"), []int{2}, nil, -1},
		{chartOf("aab", "bba"), []int{3, 1}, []int{0, 0}, 1}, {chartOf("aab", "bba"), []int{4}, []int{0, 0}, 1},
		{areaChart(3, 4, 2, 5, 6), []int{7, 7, 6}, []int{0, 0, 1, 1, 2}, 3}, {areaChart(3, 4, 2, 5, 6), []int{7, 7, 5}, nil, -1},
		{areaChart(3, 4, 2, 5, 6), []int{7, 6, 7}, []int{0, 0, 2, 2, 1}, 3}, {areaChart(3, 4, 2, 5, 6), []int{20}, []int{0, 0, 0, 0, 0}, 1},
		{areaChart(3, 4, 2, 5, 6), []int{19}, nil, -1}, {areaChart(3, 4, 2, 5, 6), []int{19, 1}, nil, -1}, {areaChart(3, 4, 2, 5, 6), []int{18, 2}, []int{0, 0, 1, 0, 0}, 2},
		{patchyChart(8, 8, 1, 0), []int{64}, []int{0}, 1}, {patchyChart(8, 8, 1, 0), []int{63}, nil, -1}, {patchyChart(8, 8, 1, 0), []int{63, 63, 63, 63, 63, 63}, nil, -1},
		{patchyChart(8, 8, 1, 0), []int{63, 63, 63, 63, 63, 64}, []int{5}, 1}, {patchyChart(8, 8, 1, 0), []int{100}, []int{0}, 1},
		// Enough knots in all do not help if no lot has enough for an area.
		{areaChart(5, 1), []int{4, 4}, nil, -1}, {areaChart(5, 1), []int{4, 5}, []int{1, 0}, 2}, {areaChart(5, 1), []int{4, 6}, []int{1, 0}, 1},
		{areaChart(3, 3, 3), []int{5, 5}, nil, -1}, {areaChart(3, 3, 3), []int{5, 6}, []int{0, 1, 1}, 2}, {areaChart(3, 3, 3), []int{4, 4, 1, 1}, nil, -1},
		// The first area must leave the first lot to a later one.
		{areaChart(1, 3), []int{3, 1}, []int{1, 0}, 2}, {areaChart(1, 2, 3), []int{5, 1}, []int{1, 0, 0}, 2}, {areaChart(2, 3, 2), []int{4, 3}, []int{0, 1, 0}, 2},
		{areaChart(1, 1, 4), []int{4, 1, 1}, []int{1, 2, 0}, 3}, {areaChart(1, 1, 4), []int{4, 2, 1}, []int{1, 1, 0}, 2}, {areaChart(1, 1, 4), []int{5, 1, 1}, []int{0, 1, 0}, 2},
		// The fewest lots are not those of the first assignment.
		{areaChart(1, 1), []int{1, 1, 1, 1, 1, 2}, []int{0, 1}, 1}, {areaChart(1, 1, 1, 1, 1, 1), []int{1, 1, 1, 1, 1, 6}, []int{0, 1, 2, 3, 4, 5}, 1},
		{areaChart(1, 1, 1, 1), []int{1, 2, 2}, []int{0, 1, 1, 2}, 2}, {areaChart(1, 1, 1, 1, 1, 1), []int{1, 1, 1, 1, 1, 1}, []int{0, 1, 2, 3, 4, 5}, 6},
		{areaChart(2, 2, 2, 2, 2), []int{3, 3, 3, 3, 4}, []int{0, 1, 2, 3, 4}, 4}, {areaChart(2, 2, 2, 2, 2), []int{3, 3, 3, 3, 3}, []int{0, 1, 2, 3, 4}, 5},
		// Without areas.
		{chartOf("b"), []int{1}, []int{}, 0}, {chartOf("bcf", "def"), []int{100, 1, 50, 2, 3, 4}, []int{}, 0},
		// With 8 of them.
		{areaChart(1, 1, 1, 1, 1, 1, 1, 1), []int{8}, []int{0, 0, 0, 0, 0, 0, 0, 0}, 1}, {areaChart(1, 1, 1, 1, 1, 1, 1, 1), []int{7}, nil, -1},
		{areaChart(3, 4, 3, 4, 3, 4, 3, 4), []int{7, 7, 7, 7}, []int{0, 0, 1, 1, 2, 2, 3, 3}, 4}, {areaChart(3, 4, 3, 4, 3, 4, 3, 4), []int{7, 7, 7, 6, 1, 1}, nil, -1},
		{areaChart(3, 3, 3, 3, 3, 3, 3, 3), []int{5, 5, 5, 5, 5, 5}, nil, -1}, {areaChart(3, 4, 3, 4, 3, 4, 3, 4), []int{1, 12, 1, 1, 1, 16}, []int{1, 5, 1, 5, 1, 5, 1, 5}, 2},
		{areaChart(3, 3, 3, 3, 3, 3, 3, 3), []int{5, 5, 8, 5, 8, 5}, []int{0, 1, 2, 2, 3, 4, 4, 5}, 6},
		{checkeredChart(4, 4, 0, 1), []int{2, 2, 2, 2}, []int{0, 0, 1, 1, 2, 2, 3, 3}, 4},
	} {
		checkAssigned(t, c.chart, 0, c.lots, c.first, c.fewest)
	}
}

// A color is assigned by itself: what the areas of others need does not count.
func TestAssignmentsOfEachColor(t *testing.T) {
	c := chartOf("aabbccc", "ddaaffc", "deedbbb")
	for color, want := range [][]int{{0, 0}, {0, 0}, {0}, {0, 0}, {0}, {0}} {
		knots := knotsOf(c, color)
		checkAssigned(t, c, color, []int{knots}, want, 1)
		if assignment, ok := impl.FirstAssignment(c, color, []int{max(knots-1, 1)}); ok != (knots == 1) || !ok && len(assignment) != 0 {
			t.Errorf("FirstAssignment(%v, %d) = %v, %v", c, color, assignment, ok)
		}
	}
}

// lotsFor returns lots for some knots, a little more or a little less than all of them; some lots have equally many.
func lotsFor(knots, count, seed int) []int {
	next := dyeNumbers(seed)
	lots := make([]int, count)
	for i := range lots {
		lots[i] = 1
		if i > 0 && next(3) == 0 {
			lots[i] = lots[i-1]
		}
	}
	sum := 0
	for _, has := range lots {
		sum += has
	}
	for ; sum < knots+next(5)-1; sum++ {
		lots[next(count)]++
	}
	return lots
}

// powerOf returns how many lists of lots there are for some areas.
func powerOf(lots, areas int) int {
	lists := 1
	for range areas {
		lists *= lots
	}
	return lists
}

// Promise 12 for Charts with areas of all shapes and lots that are just enough, or not; all lists of lots are tried.
func TestAssignmentsByTrial(t *testing.T) {
	found, failed := 0, 0
	for seed, c := range slices.Concat(windingCharts(), areaCharts()) {
		color := seed % 6
		if len(c.Knots) < 6 || knotsOf(c, color) == 0 {
			color = c.Knots[0]
		}
		sizes, count := sizesOfColor(c, color), seed%5+1
		if len(sizes) > 8 || powerOf(count, len(sizes)) > 5000 {
			continue
		}
		lots := lotsFor(knotsOf(c, color), count, seed)
		first, fewest := firstByTrial(sizes, lots)
		checkAssigned(t, c, color, lots, first, fewest)
		if first != nil {
			found++
		} else {
			failed++
		}
	}
	if found < 500 || failed < 200 {
		t.Errorf("%d assignments were found, and %d not", found, failed)
	}
}

// Promise 12 for up to 8 areas of one knot or of several, and up to 6 lots that are just enough, or not.
func TestAssignmentsOfManyAreas(t *testing.T) {
	found, failed := 0, 0
	next := dyeNumbers(12)
	for seed := range 3000 {
		sizes, knots := make([]int, seed%6+3), 0
		for i := range sizes {
			sizes[i] = next([]int{3, 2, 3}[seed%3]) + []int{1, 2, 1}[seed%3]
			knots += sizes[i]
		}
		c, lots := areaChart(sizes...), lotsFor(knots, next(6)+1, seed)
		first := firstByRoom(sizes, lots)
		checkAssigned(t, c, 0, lots, first, fewestByRoom(sizes, lots))
		if first != nil {
			found++
		} else {
			failed++
		}
		if powerOf(len(lots), len(sizes)) <= 700 {
			first, fewest := firstByTrial(sizes, lots)
			checkAssigned(t, c, 0, lots, first, fewest)
		}
	}
	if found < 1000 || failed < 300 {
		t.Errorf("%d assignments were found, and %d not", found, failed)
	}
}

// Of 8 areas an assignment is searched, of 9 it is not, though each list is still looked at.
func TestMoreAreasThanAreAssigned(t *testing.T) {
	nine := chartOf("abababab", "babababa", "accccccc")
	for _, c := range []struct {
		chart impl.Chart
		color int
		areas int
	}{
		{nine, 0, 9}, {chartOf("abababab", "babababa"), 0, 8}, {checkeredChart(6, 3, 0, 1), 1, 9}, {checkeredChart(4, 4, 5, 2), 5, 8},
		{checkeredChart(8, 8, 4, 3), 4, 32}, {checkeredChart(7, 7, 0, 3), 0, 25}, {checkeredChart(5, 4, 0, 3), 3, 10},
	} {
		for _, lots := range [][]int{{100}, {1, 100, 100, 100, 100, 100}, {100, 100}} {
			searched := c.areas <= 8
			assignment, ok := impl.FirstAssignment(c.chart, c.color, lots)
			if ok != searched || ok && len(assignment) != c.areas || !ok && len(assignment) != 0 {
				t.Errorf("FirstAssignment(%v, %d, %v) = %v, %v", c.chart, c.color, lots, assignment, ok)
			}
			if n, ok := impl.FewestLots(c.chart, c.color, lots); ok != searched || ok && n != 1 || !ok && n != 0 {
				t.Errorf("FewestLots(%v, %d, %v) = %d, %v", c.chart, c.color, lots, n, ok)
			}
			list := slices.Repeat([]int{len(lots) - 1}, c.areas)
			if is, ok := impl.IsAssignment(c.chart, c.color, lots, list); !ok || !is {
				t.Errorf("IsAssignment(%v, %d, %v, %v) = %v, %v", c.chart, c.color, lots, list, is, ok)
			}
			if is, ok := impl.IsAssignment(c.chart, c.color, lots, append(list, 0)); !ok || is {
				t.Errorf("IsAssignment(%v, %d, %v) with one lot more = %v, %v", c.chart, c.color, lots, is, ok)
			}
		}
	}
	// 32 areas use up a lot of 32, and are too many for one of 31.
	whole := checkeredChart(8, 8, 4, 3)
	for has := 30; has <= 33; has++ {
		if is, ok := impl.IsAssignment(whole, 4, []int{has, 100}, make([]int, 32)); !ok || is != (has >= 32) {
			t.Errorf("with %d knots there is %v, %v", has, is, ok)
		}
	}
}

func TestIsAssignment(t *testing.T) {
	for _, c := range []struct {
		lots, assignment []int
		want             bool
	}{
		{[]int{2, 1}, []int{0, 1}, true}, {[]int{2, 1}, []int{0, 0}, false}, {[]int{2, 1}, []int{1, 0}, false}, {[]int{2, 1}, []int{1, 1}, false},
		// One that is neither the first nor the one with the fewest lots.
		{[]int{3, 3, 3}, []int{2, 1}, true}, {[]int{3, 3, 3}, []int{2, 2}, true}, {[]int{100, 100}, []int{1, 0}, true},
		{[]int{3}, []int{0, 0}, true}, {[]int{2}, []int{0, 0}, false}, {[]int{1, 2}, []int{1, 0}, true}, {[]int{1, 2}, []int{1, 1}, false}, {[]int{1, 3}, []int{1, 1}, true},
		{[]int{1, 1, 1, 1, 1, 3}, []int{5, 5}, true}, {[]int{1, 1, 1, 1, 1, 2}, []int{5, 5}, false}, {[]int{1, 1, 1, 1, 1, 2}, []int{5, 4}, true},
		// Too few lots, or too many.
		{[]int{3}, nil, false}, {[]int{3}, []int{}, false}, {[]int{3}, []int{0}, false}, {[]int{3}, []int{0, 0, 0}, false}, {[]int{100}, []int{0, 0, 0}, false},
		{[]int{100}, slices.Repeat([]int{0}, 1000), false}, {[]int{2, 1}, []int{0, 1, 0}, false},
		// Lots that do not occur.
		{[]int{3}, []int{0, 1}, false}, {[]int{3}, []int{1, 0}, false}, {[]int{3}, []int{1, 1}, false}, {[]int{3, 3}, []int{0, 2}, false}, {[]int{3, 3}, []int{2, 1}, false},
		{[]int{3, 3}, []int{0, -1}, false}, {[]int{3, 3}, []int{-1, 0}, false}, {[]int{3, 3}, []int{math.MinInt, 0}, false}, {[]int{3, 3}, []int{0, math.MaxInt}, false},
		{[]int{3, 3}, []int{1 << 32, 0}, false}, {[]int{3, 3}, []int{0, 1<<32 + 1}, false}, {[]int{3, 3}, []int{0, 6}, false}, {[]int{3, 3}, []int{5, 0}, false},
	} {
		if is, ok := impl.IsAssignment(chartOf("aab", "bba"), 0, c.lots, c.assignment); !ok || is != c.want {
			t.Errorf("IsAssignment with %v and %v = %v, %v, not %v", c.lots, c.assignment, is, ok, c.want)
		}
	}
	// Without areas only the empty list is one.
	for _, list := range [][]int{nil, {}, {0}, {0, 0}, {-1}, {1}} {
		if is, ok := impl.IsAssignment(chartOf("aab", "bba"), 2, []int{5}, list); !ok || is != (len(list) == 0) {
			t.Errorf("without areas %v is %v, %v", list, is, ok)
		}
	}
}

// All lists of lots for Charts with few areas, and lists that are longer, shorter, or have lots that do not occur.
func TestIsAssignmentByRules(t *testing.T) {
	are, areNot := 0, 0
	for seed, c := range areaCharts() {
		color := c.Knots[len(c.Knots)-1]
		sizes := sizesOfColor(c, color)
		lots := lotsFor(knotsOf(c, color)+seed%3, seed%4+1, seed)
		next := dyeNumbers(seed)
		for range 20 {
			list := make([]int, len(sizes))
			for i := range list {
				list[i] = next(len(lots))
			}
			switch next(8) {
			case 0:
				list = list[1:]
			case 1:
				list = append(list, 0)
			case 2:
				list[next(len(list))] = []int{-1, len(lots), 6, math.MaxInt}[next(4)]
			}
			given, want := slices.Clone(list), isUsedWell(sizes, lots, list)
			if is, ok := impl.IsAssignment(c, color, lots, list); !ok || is != want {
				t.Fatalf("IsAssignment(%v, %d, %v, %v) = %v, %v, not %v", c, color, lots, list, is, ok, want)
			}
			if !slices.Equal(list, given) {
				t.Fatalf("%v has become %v", given, list)
			}
			if want {
				are++
			} else {
				areNot++
			}
		}
	}
	if are < 5000 || areNot < 5000 {
		t.Errorf("%d lists are assignments, and %d are not", are, areNot)
	}
}

// invalidLots returns lists that are no lots.
func invalidLots() [][]int {
	lists := [][]int{nil, {}, make([]int, 0, 6), {0}, {101}, {-1}, {5, 0}, {0, 5}, {100, 101}, {101, 100}, make([]int, 6), slices.Repeat([]int{50}, 7), slices.Repeat([]int{100}, 1000), {1, 2, 3, 4, 5, 6, 7}}
	for at := range 6 {
		for _, n := range []int{math.MinInt, -1 << 32, -100, -1, 0, 101, 102, 1 << 32, 1<<32 + 50, math.MaxInt} {
			lists = append(lists, withAt(slices.Repeat([]int{100}, 6), at, n))
		}
	}
	return lists
}

// checkLotsRefused calls each function that takes lots, of whose arguments one is not valid, and checks that all fail.
func checkLotsRefused(t *testing.T, c impl.Chart, color int, lots []int) {
	t.Helper()
	for _, list := range [][]int{nil, {0}, {0, 0}, {0, 1}} {
		if is, ok := impl.IsAssignment(c, color, lots, list); ok || is {
			t.Errorf("IsAssignment(%v, %d, %v, %v) = %v, %v", c, color, lots, list, is, ok)
		}
	}
	if assignment, ok := impl.FirstAssignment(c, color, lots); ok || len(assignment) != 0 {
		t.Errorf("FirstAssignment(%v, %d, %v) = %v, %v", c, color, lots, assignment, ok)
	}
	if n, ok := impl.FewestLots(c, color, lots); ok || n != 0 {
		t.Errorf("FewestLots(%v, %d, %v) = %d, %v", c, color, lots, n, ok)
	}
}

func TestInvalidLots(t *testing.T) {
	for _, lots := range invalidLots() {
		for _, c := range []impl.Chart{chartOf("a"), chartOf("aab", "bba"), checkeredChart(8, 8, 0, 1), areaChart(3, 4, 3, 4, 3, 4, 3, 4)} {
			// The last colors have no areas.
			for color := range 6 {
				checkLotsRefused(t, c, color, lots)
			}
		}
	}
	for _, color := range append(oddNumbers(), 1<<32+1) {
		for _, lots := range append(invalidLots(), []int{1}, []int{100}, slices.Repeat([]int{100}, 6)) {
			if color < 0 || color > 5 {
				checkLotsRefused(t, chartOf("aab", "bba"), color, lots)
				checkLotsRefused(t, chartOf("a"), color, lots)
			}
		}
	}
}

// The limits of lots are met exactly: one and six of them, with 1 and with 100 knots.
func TestLotsAtTheirLimits(t *testing.T) {
	checkAssigned(t, chartOf("ab"), 0, []int{1}, []int{0}, 1)
	checkAssigned(t, chartOf("ab"), 0, []int{100}, []int{0}, 1)
	checkAssigned(t, chartOf("ab"), 0, []int{1, 1, 1, 1, 1, 1}, []int{0}, 1)
	checkAssigned(t, chartOf("ab"), 0, []int{100, 100, 100, 100, 100, 100}, []int{0}, 1)
	checkAssigned(t, chartOf("aab"), 0, []int{1, 1, 1, 1, 1, 100}, []int{5}, 1)
	checkAssigned(t, chartOf("aab"), 0, []int{1, 1, 1, 1, 1, 1}, nil, -1)
	for at := range 6 {
		checkAssigned(t, chartOf("aab"), 0, withAt([]int{1, 1, 1, 1, 1, 1}, at, 2), []int{at}, 1)
	}
}

func TestAreaFunctionsRefuseInvalidCharts(t *testing.T) {
	bad := invalidCharts()
	for _, c := range allSizes(4) {
		for i := range c.Knots {
			bad = append(bad, impl.Chart{Width: c.Width, Height: c.Height, Knots: withAt(c.Knots, i, 6-i%2*7)})
		}
	}
	for _, c := range bad {
		areas, okAreas := impl.AreasOf(c)
		count, okCount := impl.AreaCount(c)
		greatest, knots, okGreatest := impl.GreatestArea(c)
		if okAreas || okCount || okGreatest || len(areas) != 0 || count != 0 || greatest != 0 || knots != 0 {
			t.Errorf("%v has %d areas, %v, and %d with %d knots", c, count, areas, greatest, knots)
		}
		for _, n := range []int{-1, 0, 1, 5, 6} {
			sizes, okSizes := impl.AreaSizes(c, n)
			neighbors, okNeighbors := impl.AreaNeighbors(c, n)
			filled, okFilled := impl.FillArea(c, n, 0)
			other, okOther := impl.FillArea(c, 0, n)
			if okSizes || okNeighbors || okFilled || okOther || len(sizes)+len(neighbors) != 0 || !isNoChart(filled) || !isNoChart(other) {
				t.Errorf("for %v and %d there is %v, %v, %v, %v", c, n, sizes, neighbors, filled, other)
			}
			checkLotsRefused(t, c, n, []int{100, 100})
		}
	}
}

// areaResults calls each function that returns a list or a Chart, and returns the slices of all results.
func areaResults(c impl.Chart, area, color int, lots []int) [][]int {
	areas, _ := impl.AreasOf(c)
	sizes, _ := impl.AreaSizes(c, color)
	neighbors, _ := impl.AreaNeighbors(c, area)
	assignment, _ := impl.FirstAssignment(c, color, lots)
	filled, _ := impl.FillArea(c, area, color)
	kept, _ := impl.FillArea(c, 0, c.Knots[0])
	return [][]int{areas, sizes, neighbors, assignment, filled.Knots, kept.Knots}
}

// areaAnswers calls each function of the chapter, and returns all that they return as text.
func areaAnswers(c impl.Chart, a, b int, lots, list []int) string {
	areas, okAreas := impl.AreasOf(c)
	count, okCount := impl.AreaCount(c)
	sizes, okSizes := impl.AreaSizes(c, a)
	neighbors, okNeighbors := impl.AreaNeighbors(c, a)
	is, okIs := impl.IsAssignment(c, a, lots, list)
	assignment, okFirst := impl.FirstAssignment(c, a, lots)
	fewest, okFewest := impl.FewestLots(c, a, lots)
	greatest, knots, okGreatest := impl.GreatestArea(c)
	filled, okFilled := impl.FillArea(c, a, b)
	return fmt.Sprint(areas, okAreas, count, okCount, sizes, okSizes, neighbors, okNeighbors, is, okIs, assignment, okFirst, fewest, okFewest, greatest, knots, okGreatest, filled, okFilled)
}

func TestAreaFunctionsChangeNoArgument(t *testing.T) {
	for seed, c := range slices.Concat(evenCharts(), windingCharts(), manySmallCharts()[:500]) {
		// What lies beyond the length of a slice stays as it is, too, and counts for nothing.
		color := c.Knots[seed%len(c.Knots)]
		areas := len(sizesOfColor(c, color))
		knots := append(slices.Clone(c.Knots), 1, 77, 78)
		lots := append(lotsFor(knotsOf(c, color), seed%6+1, seed), 100, -1, 87)
		list := append(make([]int, areas), 0, -1, 97)
		givenKnots, givenLots, givenList := slices.Clone(knots), slices.Clone(lots), slices.Clone(list)
		chart := impl.Chart{Width: c.Width, Height: c.Height, Knots: knots[:len(c.Knots)]}
		text, plain := areaAnswers(chart, color, seed%6, lots[:seed%6+1], list[:areas]), areaAnswers(cloneChart(c), color, seed%6, slices.Clone(lots[:seed%6+1]), slices.Clone(list[:areas]))
		if text != plain {
			t.Fatalf("for %v, %d and %v there is %s, not %s", c, color, lots, text, plain)
		}
		if !slices.Equal(knots, givenKnots) || !slices.Equal(lots, givenLots) || !slices.Equal(list, givenList) {
			t.Fatalf("%v, %v and %v have become %v, %v and %v", givenKnots, givenLots, givenList, knots, lots, list)
		}
	}
}

// Whatever is written to one result, over all of its memory, neither another one nor an argument changes.
func TestAreaResultsAreSeparate(t *testing.T) {
	for _, c := range []impl.Chart{chartOf("ab"), chartOf("aab", "bba"), areaChart(3, 4, 3, 4, 3, 4, 3, 4), windingCharts()[0], windingCharts()[7]} {
		for _, lots := range [][]int{{100}, {100, 100}, {100, 100, 100, 100, 100, 100}} {
			given, before := cloneChart(c), slices.Clone(lots)
			results := append(areaResults(c, 0, 0, lots), areaResults(c, 0, 0, lots)...)
			for i, list := range results {
				if len(list) == 0 {
					t.Fatalf("result %d of %v is empty", i, c)
				}
			}
			checkSeparate(t, results, -1)
			if !sameChart(c, given) || !slices.Equal(lots, before) {
				t.Fatalf("%v and %v have become %v and %v", given, before, c, lots)
			}
		}
	}
}

// Each function returns for odd numbers, Charts and lists, and the same at each call.
func TestAreaFunctionsAreTotal(t *testing.T) {
	charts := append(invalidCharts(), chartOf("a"), chartOf("ab", "cd"), mixedChart(8, 8, 3), checkeredChart(8, 8, 0, 1), areaChart(3, 3, 3, 3, 3, 3, 3, 3))
	lists := append(invalidLots(), []int{1}, []int{5, 5, 5, 5, 5, 5}, []int{100, 100}, oddNumbers())
	for i, c := range charts {
		for j, lots := range lists {
			for k, a := range oddNumbers() {
				b, list := oddNumbers()[(i+j*3+k*7)%len(oddNumbers())], lists[(i+j*5+k*3)%len(lists)]
				if first, second := areaAnswers(c, a, b, lots, list), areaAnswers(c, a, b, lots, list); first != second {
					t.Errorf("for %v, %d, %d, %v and %v there is %s, and then %s", c, a, b, lots, list, first, second)
				}
			}
		}
	}
}

// A search among all areas and lots ends soon, also if it finds nothing.
func TestLongestSearches(t *testing.T) {
	for _, c := range []struct {
		sizes, lots []int
	}{
		{[]int{3, 3, 3, 3, 3, 3, 3, 4}, []int{6, 5, 4, 7, 3, 2}}, {[]int{1, 1, 1, 1, 1, 1, 1, 6}, []int{5, 4, 3, 2, 1, 1}},
		{[]int{1, 2, 1, 2, 1, 2, 1, 6}, []int{1, 2, 3, 4, 5, 5}}, {[]int{3, 4, 3, 4, 3, 4, 3, 4}, []int{2, 3, 5, 6, 7, 9}},
		{[]int{2, 2, 2, 2, 2, 2, 2, 5}, []int{4, 4, 4, 4, 4, 3}}, {[]int{1, 1, 1, 1, 1, 1, 1, 6}, []int{1, 2, 3, 4, 5, 100}},
	} {
		first := firstByRoom(c.sizes, c.lots)
		checkAssigned(t, areaChart(c.sizes...), 0, c.lots, first, fewestByRoom(c.sizes, c.lots))
	}
}

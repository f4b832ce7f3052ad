package tests

import (
	"math"
	"slices"
	"strconv"
	"strings"
	"testing"
	"unsafe"

	"loop.example/g01023/impl"
)

// shadeNames are as many different words as a card has Shades, and one more.
var shadeNames = []string{"madder", "indigo", "weld", "walnut", "cochineal", "a", "zzzzzzzzzz", "oak", "henna", "ivory", "lac"}

// shadeAt returns a Shade with a place on the wheel and a Depth, valid for Ids in 1..11.
func shadeAt(id, wheel, depth int) impl.Shade {
	return impl.Shade{Id: id, Name: shadeNames[id-1], Wheel: wheel, Depth: depth, Fast: id%8 + 1}
}

// cardAt returns a card of Shades with places on the wheel and Depths, given in pairs; its Ids are 1, 2, 3 and so on.
func cardAt(places ...int) []impl.Shade {
	var card []impl.Shade
	for i := 0; i < len(places); i += 2 {
		card = append(card, shadeAt(i/2+1, places[i], places[i+1]))
	}
	return card
}

// mixedCard returns a card of a length whose Shades often have equal steps and Depths, depending on a seed; its Ids reach 99.
func mixedCard(length, seed int) []impl.Shade {
	state := seed*7919 + 17
	next := func(below int) int {
		state = (state*1103 + 12345) % 65537
		return state / 7 % below
	}
	steps := []int{24, 12, 3, 1}[seed%4]
	depths := []int{10, 2, 4}[seed%3]
	var card []impl.Shade
	for i := range length {
		card = append(card, impl.Shade{
			Id: (i+1)*99/length - next(9), Name: shadeNames[(i+seed)%len(shadeNames)],
			Wheel: (next(steps)*(24/steps) + seed) % 24, Depth: (next(depths) + seed%4) % 10, Fast: next(8) + 1,
		})
	}
	return card
}

// mixedCards returns cards of all lengths.
func mixedCards() [][]impl.Shade {
	cards := [][]impl.Shade{nil, {}}
	for length := 1; length <= impl.MaxShades; length++ {
		for seed := range 24 {
			cards = append(cards, mixedCard(length, seed))
		}
	}
	return cards
}

// invalidShades returns Shades of which one field is not valid.
func invalidShades() []impl.Shade {
	valid := impl.Shade{Id: 1, Name: "madder", Wheel: 0, Depth: 5, Fast: 3}
	shades := []impl.Shade{{}}
	add := func(change func(*impl.Shade)) {
		s := valid
		change(&s)
		shades = append(shades, s)
	}
	for _, n := range []int{math.MinInt, -1 << 32, -1, 0, 100, 1<<32 + 1, math.MaxInt} {
		add(func(s *impl.Shade) { s.Id = n })
	}
	for _, n := range []int{math.MinInt, -1 << 32, -24, -1, 24, 25, 1 << 32, math.MaxInt} {
		add(func(s *impl.Shade) { s.Wheel = n })
	}
	for _, n := range []int{math.MinInt, -1 << 32, -1, 10, 11, 1 << 32, math.MaxInt} {
		add(func(s *impl.Shade) { s.Depth = n })
	}
	for _, n := range []int{math.MinInt, -1 << 32, -1, 0, 9, 10, 1<<32 + 1, math.MaxInt} {
		add(func(s *impl.Shade) { s.Fast = n })
	}
	for _, name := range invalidNames() {
		add(func(s *impl.Shade) { s.Name = name })
	}
	return shades
}

// invalidNames returns texts that are no words.
func invalidNames() []string {
	return []string{
		"", " ", "abcdefghijk", strings.Repeat("a", 5000), "Madder", "madDer", "madder ", " madder", "mad der", "madder1", "1", "mad-der",
		"`", "{", "a`", "a{", "A", "Z", "\x00", "a\x00", "\xff", "m\xc3\xa4dder", "\xc3\xa9", "madder\n", " at ", "a at 0",
	}
}

// invalidCards returns lists that are no shade cards.
func invalidCards() [][]impl.Shade {
	a, b, c := shadeAt(1, 0, 5), shadeAt(2, 16, 9), shadeAt(4, 8, 2)
	namesake := c
	namesake.Name = a.Name
	neighbor := b
	neighbor.Name = a.Name
	twin := b
	twin.Name = c.Name
	eleven := cardAt(make([]int, 22)...)
	cards := [][]impl.Shade{
		{b, a}, {a, a}, {a, c, b}, {b, a, c}, {c, b, a}, {a, b, b}, {b, twin}, {a, twin, b},
		{a, neighbor}, {a, b, namesake}, eleven, slices.Repeat([]impl.Shade{a}, 1000),
	}
	for _, s := range invalidShades() {
		cards = append(cards, []impl.Shade{s}, []impl.Shade{s, b})
	}
	return cards
}

func idsOf(card []impl.Shade) []int {
	var ids []int
	for _, s := range card {
		ids = append(ids, s.Id)
	}
	return ids
}

func sameLists(a, b [][]int) bool {
	return slices.EqualFunc(a, b, func(x, y []int) bool { return slices.Equal(x, y) })
}

// gapByWalk walks upwards and downwards around the wheel at once until one of the walks comes to b.
func gapByWalk(a, b int) int {
	up, down, steps := a, a, 0
	for up != b && down != b {
		steps++
		if up++; up == 24 {
			up = 0
		}
		if down--; down < 0 {
			down = 23
		}
	}
	return steps
}

// apart returns the distance of two Shades by the document's rule.
func apart(a, b impl.Shade) int {
	difference := a.Depth - b.Depth
	if difference < 0 {
		difference = -difference
	}
	return 2*gapByWalk(a.Wheel, b.Wheel) + difference
}

// depthAfter takes one of the Depth after each 5 * Fast full years.
func depthAfter(s impl.Shade, years int) int {
	depth := s.Depth
	for year := 1; year <= years; year++ {
		if year%(5*s.Fast) == 0 && depth > 0 {
			depth--
		}
	}
	return depth
}

func TestColorConstants(t *testing.T) {
	if impl.MaxShades != 10 || impl.WheelSteps != 24 {
		t.Error("limits", impl.MaxShades, impl.WheelSteps)
	}
}

func TestIsShade(t *testing.T) {
	for _, id := range []int{1, 2, 50, 98, 99} {
		for _, wheel := range []int{0, 1, 12, 23} {
			for depth := range 10 {
				for fast := 1; fast <= 8; fast++ {
					for _, name := range []string{"a", "z", "madder", "abcdefghij", "zzzzzzzzzz", "at", "depth", "fast"} {
						s := impl.Shade{Id: id, Name: name, Wheel: wheel, Depth: depth, Fast: fast}
						if !impl.IsShade(s) {
							t.Errorf("%v is no Shade", s)
						}
					}
				}
			}
		}
	}
	for _, s := range invalidShades() {
		if impl.IsShade(s) {
			t.Errorf("%v is a Shade", s)
		}
	}
}

// A Name has letters a to z only, wherever another byte stands.
func TestShadeNamesAreWords(t *testing.T) {
	for c := range 256 {
		letter := string([]byte{byte(c)})
		for _, name := range []string{letter, "a" + letter, letter + "z", "abcd" + letter + "fghij"} {
			if valid := c >= 'a' && c <= 'z'; impl.IsShade(impl.Shade{Id: 1, Name: name, Fast: 1}) != valid {
				t.Errorf("a Shade with the Name %q is valid: %v", name, !valid)
			}
		}
	}
	for length := range 30 {
		valid := length >= 1 && length <= 10
		if impl.IsShade(impl.Shade{Id: 1, Name: strings.Repeat("a", length), Fast: 1}) != valid {
			t.Errorf("a Shade with a Name of %d letters is valid: %v", length, !valid)
		}
	}
}

func TestIsShadeCard(t *testing.T) {
	for _, card := range mixedCards() {
		if !impl.IsShadeCard(card) {
			t.Errorf("%v is no card", card)
		}
	}
	// Equal places, Depths and fastness are no fault, and neither are neighboring or far Ids.
	if card := cardAt(make([]int, 20)...); !impl.IsShadeCard(card) {
		t.Errorf("%v is no card", card)
	}
	if card := []impl.Shade{{Id: 1, Name: "a", Fast: 1}, {Id: 99, Name: "aa", Fast: 1}}; !impl.IsShadeCard(card) {
		t.Errorf("%v is no card", card)
	}
	for _, card := range invalidCards() {
		if impl.IsShadeCard(card) {
			t.Errorf("%v is a card", card)
		}
	}
}

// A card with one Shade changed is one only if the Shade is valid, in order, and has a Name of its own.
func TestIsShadeCardChecksEachShade(t *testing.T) {
	full := cardAt(make([]int, 20)...)
	for i := range full {
		for _, s := range invalidShades() {
			changed := slices.Clone(full)
			changed[i] = s
			if impl.IsShadeCard(changed) {
				t.Errorf("a card with %v at %d is one", s, i)
			}
		}
		for j := range full {
			named, numbered := slices.Clone(full), slices.Clone(full)
			named[i].Name = full[j].Name
			numbered[i].Id = full[j].Id
			if impl.IsShadeCard(named) != (i == j) || impl.IsShadeCard(numbered) != (i == j) {
				t.Errorf("a card with the Name or the Id of %d at %d is one", j, i)
			}
		}
	}
}

// The Shades beyond the length of a card are none of its.
func TestCardsEndAtTheirLength(t *testing.T) {
	whole := append(cardAt(0, 5, 8, 2, 16, 9), impl.Shade{Id: 1, Name: "Bad", Wheel: 99}, shadeAt(1, 0, 0))
	given := slices.Clone(whole)
	card := whole[:3]
	if !impl.IsShadeCard(card) {
		t.Error("a part of a longer list is no card")
	}
	if ids, ok := impl.WheelOrder(card, 5); !ok || !slices.Equal(ids, []int{2, 3, 1}) {
		t.Error("order", ids, ok)
	}
	if triads, ok := impl.TriadsOf(card, 0); !ok || !sameLists(triads, [][]int{{1, 2, 3}}) {
		t.Error("triads", triads, ok)
	}
	if !slices.Equal(whole, given) {
		t.Errorf("%v has become %v", given, whole)
	}
}

func TestWheelGap(t *testing.T) {
	for _, c := range []struct{ a, b, want int }{{0, 0, 0}, {23, 23, 0}, {0, 1, 1}, {0, 23, 1}, {23, 1, 2}, {0, 11, 11}, {0, 12, 12}, {0, 13, 11}, {0, 16, 8}, {5, 17, 12}, {6, 17, 11}} {
		if gap, ok := impl.WheelGap(c.a, c.b); !ok || gap != c.want {
			t.Errorf("WheelGap(%d, %d) = %d, %v", c.a, c.b, gap, ok)
		}
	}
	for a := range impl.WheelSteps {
		for b := range impl.WheelSteps {
			if gap, ok := impl.WheelGap(a, b); !ok || gap != gapByWalk(a, b) {
				t.Errorf("WheelGap(%d, %d) = %d, %v", a, b, gap, ok)
			}
		}
	}
}

func TestGapsAreMutual(t *testing.T) {
	for a := -3; a < impl.WheelSteps+3; a++ {
		for b := -3; b < impl.WheelSteps+3; b++ {
			there, okThere := impl.WheelGap(a, b)
			back, okBack := impl.WheelGap(b, a)
			if there != back || okThere != okBack {
				t.Errorf("the gap of %d and %d is %d, %v, but back %d, %v", a, b, there, okThere, back, okBack)
			}
			if okThere && (there < 0 || there > 12 || (there == 0) != (a == b)) {
				t.Errorf("the gap of %d and %d is %d", a, b, there)
			}
		}
	}
}

func TestWheelGapRefuses(t *testing.T) {
	for _, n := range []int{math.MinInt, math.MinInt + 1, -1 << 32, -24, -1, 24, 25, 47, 48, 1 << 32, math.MaxInt} {
		for _, other := range []int{0, 12, 23, n, -n} {
			there, okThere := impl.WheelGap(n, other)
			back, okBack := impl.WheelGap(other, n)
			if okThere || okBack || there != 0 || back != 0 {
				t.Errorf("the gap of %d and %d is %d, %v, and back %d, %v", n, other, there, okThere, back, okBack)
			}
		}
	}
}

func TestShadeDistance(t *testing.T) {
	for _, c := range []struct{ wheelA, depthA, wheelB, depthB, want int }{
		{0, 5, 16, 9, 20}, {0, 0, 0, 0, 0}, {7, 3, 7, 3, 0}, {7, 3, 7, 4, 1}, {7, 9, 7, 0, 9}, {0, 0, 12, 9, 33}, {0, 9, 12, 0, 33}, {23, 4, 0, 4, 2}, {23, 2, 1, 5, 7},
	} {
		a, b := shadeAt(1, c.wheelA, c.depthA), shadeAt(2, c.wheelB, c.depthB)
		if d, ok := impl.ShadeDistance(a, b); !ok || d != c.want {
			t.Errorf("ShadeDistance(%v, %v) = %d, %v", a, b, d, ok)
		}
	}
	for places := range 24 * 24 * 10 * 10 {
		a := shadeAt(1, places%24, places/576%10)
		b := shadeAt(2, places/24%24, places/5760)
		there, okThere := impl.ShadeDistance(a, b)
		back, okBack := impl.ShadeDistance(b, a)
		if !okThere || !okBack || there != back || there != apart(a, b) {
			t.Fatalf("the distance of %v and %v is %d, %v, and back %d, %v", a, b, there, okThere, back, okBack)
		}
	}
}

// The distance of two Shades does not depend on their Ids and Names, which may be equal.
func TestShadeDistanceOfEqualShades(t *testing.T) {
	a := shadeAt(3, 5, 5)
	if d, ok := impl.ShadeDistance(a, a); !ok || d != 0 {
		t.Errorf("the distance of %v from itself is %d, %v", a, d, ok)
	}
	b := a
	b.Wheel, b.Depth = 20, 1
	if d, ok := impl.ShadeDistance(a, b); !ok || d != 22 {
		t.Errorf("the distance of %v and %v is %d, %v", a, b, d, ok)
	}
}

func TestShadeDistanceRefuses(t *testing.T) {
	valid := shadeAt(2, 4, 4)
	for _, s := range invalidShades() {
		for _, pair := range [][2]impl.Shade{{s, valid}, {valid, s}, {s, s}} {
			if d, ok := impl.ShadeDistance(pair[0], pair[1]); ok || d != 0 {
				t.Errorf("ShadeDistance(%v, %v) = %d, %v", pair[0], pair[1], d, ok)
			}
		}
	}
}

func TestNearestShade(t *testing.T) {
	for _, c := range []struct {
		card               []impl.Shade
		wheel, depth, want int
	}{
		{cardAt(0, 5, 16, 9, 8, 2), 1, 4, 1},
		{cardAt(12, 9), 0, 0, 1},
		{cardAt(22, 5, 3, 5), 0, 5, 1},
		{cardAt(3, 5, 23, 5), 0, 5, 2},
		// As far by the wheel as by the Depth: the smallest Id.
		{cardAt(1, 5, 0, 7, 0, 3, 23, 5), 0, 5, 1},
		{cardAt(0, 7, 1, 5, 0, 3), 0, 5, 1},
		{cardAt(9, 9, 4, 4, 4, 4, 4, 4), 4, 4, 2},
		{cardAt(5, 0, 4, 9), 4, 6, 2},
		{cardAt(2, 0, 0, 5), 0, 0, 1},
	} {
		if id, ok := impl.NearestShade(c.card, c.wheel, c.depth); !ok || id != c.want {
			t.Errorf("NearestShade(%v, %d, %d) = %d, %v", c.card, c.wheel, c.depth, id, ok)
		}
	}
	for _, card := range mixedCards()[2:] {
		for place := range 240 {
			wheel, depth := place%24, place/24
			id, ok := impl.NearestShade(card, wheel, depth)
			at := slices.Index(idsOf(card), id)
			if !ok || at < 0 {
				t.Fatalf("NearestShade(%v, %d, %d) = %d, %v", card, wheel, depth, id, ok)
			}
			aim := impl.Shade{Wheel: wheel, Depth: depth}
			for i, s := range card {
				if d := apart(s, aim); d < apart(card[at], aim) || d == apart(card[at], aim) && i < at {
					t.Errorf("of %v, %v is nearer to %d and %d than %d, or first", card, s, wheel, depth, id)
				}
			}
		}
	}
}

func TestNearestShadeRefuses(t *testing.T) {
	for _, card := range append(invalidCards(), nil, []impl.Shade{}) {
		if id, ok := impl.NearestShade(card, 0, 0); ok || id != 0 {
			t.Errorf("NearestShade(%v, 0, 0) = %d, %v", card, id, ok)
		}
	}
	card := cardAt(0, 0, 23, 9)
	for _, n := range []int{math.MinInt, -1 << 32, -24, -1, 24, 25, 1 << 32, math.MaxInt} {
		wheelId, wheelOk := impl.NearestShade(card, n, 0)
		depthId, depthOk := impl.NearestShade(card, 0, n)
		if wheelOk || depthOk || wheelId != 0 || depthId != 0 {
			t.Errorf("nearest to %d: %d, %v, and %d, %v", n, wheelId, wheelOk, depthId, depthOk)
		}
	}
	if id, ok := impl.NearestShade(card, 0, 10); ok || id != 0 {
		t.Errorf("nearest to the Depth 10: %d, %v", id, ok)
	}
	if id, ok := impl.NearestShade(card, 23, 9); !ok || id != 2 {
		t.Errorf("nearest to the last step and the greatest Depth: %d, %v", id, ok)
	}
}

func TestFadedShade(t *testing.T) {
	for _, c := range []struct{ depth, fast, years, want int }{
		{5, 3, 30, 3}, {2, 1, 24, 0}, {2, 1, 0, 2}, {2, 1, 4, 2}, {2, 1, 5, 1}, {2, 1, 9, 1}, {2, 1, 10, 0}, {0, 1, 200, 0}, {1, 1, 200, 0}, {0, 8, 0, 0},
		{9, 1, 44, 1}, {9, 1, 45, 0}, {9, 1, 50, 0}, {9, 8, 200, 4}, {9, 8, 199, 5}, {9, 8, 39, 9}, {9, 8, 40, 8}, {9, 4, 179, 1}, {9, 4, 180, 0}, {9, 4, 200, 0},
	} {
		s := impl.Shade{Id: 99, Name: "weld", Wheel: 23, Depth: c.depth, Fast: c.fast}
		want := s
		want.Depth = c.want
		if faded, ok := impl.FadedShade(s, c.years); !ok || faded != want {
			t.Errorf("FadedShade(%v, %d) = %v, %v", s, c.years, faded, ok)
		}
	}
	for years := range 201 {
		for place := range 80 {
			s := impl.Shade{Id: 7, Name: "henna", Wheel: years % 24, Depth: place / 8, Fast: place%8 + 1}
			want := s
			want.Depth = depthAfter(s, years)
			if faded, ok := impl.FadedShade(s, years); !ok || faded != want {
				t.Errorf("FadedShade(%v, %d) = %v, %v", s, years, faded, ok)
			}
		}
	}
}

func TestFadedShadeRefuses(t *testing.T) {
	for _, s := range invalidShades() {
		for _, years := range []int{0, 100, 200, 201, -1} {
			if faded, ok := impl.FadedShade(s, years); ok || faded != (impl.Shade{}) {
				t.Errorf("FadedShade(%v, %d) = %v, %v", s, years, faded, ok)
			}
		}
	}
	for _, years := range []int{math.MinInt, -1 << 32, -5, -1, 201, 1 << 32, math.MaxInt} {
		if faded, ok := impl.FadedShade(shadeAt(1, 0, 5), years); ok || faded != (impl.Shade{}) {
			t.Errorf("after %d years: %v, %v", years, faded, ok)
		}
	}
}

func TestFadedApart(t *testing.T) {
	a := impl.Shade{Id: 1, Name: "madder", Depth: 5, Fast: 3}
	b := impl.Shade{Id: 2, Name: "indigo", Wheel: 16, Depth: 9, Fast: 8}
	c := impl.Shade{Id: 4, Name: "weld", Wheel: 8, Depth: 2, Fast: 1}
	card := []impl.Shade{a, b, c}
	for _, x := range []struct {
		years, least int
		want         [][]int
	}{
		// Today the distances are 20, 19 and 23, and after 50 years, with the Depths 2, 8 and 0, 22, 18 and 24.
		{50, 19, [][]int{{1, 4}}}, {50, 18, nil}, {50, 20, nil}, {50, 24, nil}, {0, 19, nil},
		// After 200 years all but indigo have faded to nothing, and that to 4: 20, 16 and 20.
		{200, 19, [][]int{{1, 4}}}, {200, 20, nil}, {200, 21, [][]int{{2, 4}}}, {200, 23, [][]int{{2, 4}}}, {200, 17, [][]int{{1, 4}}}, {200, 16, nil},
	} {
		if pairs, ok := impl.FadedApart(card, x.years, x.least); !ok || !sameLists(pairs, x.want) {
			t.Errorf("FadedApart(%v, %d, %d) = %v, %v", card, x.years, x.least, pairs, ok)
		}
	}
}

// Shades at equal steps that fade to nothing have no distance then.
func TestFadedApartOfShadesThatFadeToNothing(t *testing.T) {
	var card []impl.Shade
	for i := range impl.MaxShades {
		card = append(card, impl.Shade{Id: i*10 + 9, Name: shadeNames[i], Wheel: 23, Depth: i, Fast: 1})
	}
	var all [][]int
	for i := range card {
		for j := i + 1; j < len(card); j++ {
			all = append(all, []int{i*10 + 9, j*10 + 9})
		}
	}
	if pairs, ok := impl.FadedApart(card, 45, 1); !ok || !sameLists(pairs, all) {
		t.Errorf("apart today, not after 45 years: %v, %v", pairs, ok)
	}
	// A year before, the darkest one has the Depth 1.
	if pairs, ok := impl.FadedApart(card, 44, 1); !ok || len(pairs) != 45-9 || slices.ContainsFunc(pairs, func(p []int) bool { return p[1] == 99 }) {
		t.Errorf("apart today, not after 44 years: %v, %v", pairs, ok)
	}
	if pairs, ok := impl.FadedApart(card, 200, 0); !ok || len(pairs) != 0 {
		t.Errorf("less than no distance: %v, %v", pairs, ok)
	}
}

func TestFadedApartByPairs(t *testing.T) {
	found := 0
	for _, card := range mixedCards() {
		for _, years := range []int{0, 1, 5, 39, 40, 90, 200} {
			for least := range 34 {
				var want [][]int
				for i, a := range card {
					for _, b := range card[i+1:] {
						x, y := a, b
						x.Depth, y.Depth = depthAfter(a, years), depthAfter(b, years)
						if apart(a, b) >= least && apart(x, y) < least {
							want = append(want, []int{a.Id, b.Id})
						}
					}
				}
				found += len(want)
				if pairs, ok := impl.FadedApart(card, years, least); !ok || !sameLists(pairs, want) {
					t.Fatalf("FadedApart(%v, %d, %d) = %v, %v, not %v", card, years, least, pairs, ok, want)
				}
			}
		}
	}
	if found == 0 {
		t.Error("no pair has come nearer")
	}
}

func TestFadedApartRefuses(t *testing.T) {
	for _, card := range invalidCards() {
		if pairs, ok := impl.FadedApart(card, 200, 1); ok || len(pairs) != 0 {
			t.Errorf("FadedApart(%v, 200, 1) = %v, %v", card, pairs, ok)
		}
	}
	card := cardAt(3, 0, 3, 9)
	for _, c := range []struct {
		years, least int
		valid        bool
	}{
		{0, 0, true}, {200, 33, true}, {200, 34, false}, {201, 33, false}, {-1, 33, false}, {200, -1, false}, {201, 34, false}, {math.MinInt, 1, false}, {math.MaxInt, 1, false},
		{1, math.MinInt, false}, {1, math.MaxInt, false}, {1 << 32, 1, false}, {1, 1 << 32, false},
	} {
		for _, list := range [][]impl.Shade{card, nil} {
			if pairs, ok := impl.FadedApart(list, c.years, c.least); ok != c.valid || len(pairs) != 0 {
				t.Errorf("FadedApart(%v, %d, %d) = %v, %v", list, c.years, c.least, pairs, ok)
			}
		}
	}
}

// A distance of 33, the greatest one, is lost to the first Depth that fades.
func TestFadedApartAtTheGreatestDistance(t *testing.T) {
	card := []impl.Shade{{Id: 1, Name: "a", Wheel: 0, Depth: 0, Fast: 1}, {Id: 99, Name: "b", Wheel: 12, Depth: 9, Fast: 1}}
	for years, want := range map[int][][]int{4: nil, 5: {{1, 99}}, 200: {{1, 99}}} {
		if pairs, ok := impl.FadedApart(card, years, 33); !ok || !sameLists(pairs, want) {
			t.Errorf("after %d years: %v, %v", years, pairs, ok)
		}
	}
}

func TestTriadsOf(t *testing.T) {
	for _, c := range []struct {
		card   []impl.Shade
		within int
		want   [][]int
	}{
		{cardAt(0, 5, 16, 9, 8, 2), 0, [][]int{{1, 2, 3}}},
		{cardAt(0, 0, 8, 0, 16, 0, 16, 0), 0, [][]int{{1, 2, 3}, {1, 2, 4}}},
		{cardAt(23, 0, 7, 0, 15, 9), 0, [][]int{{1, 2, 3}}},
		// Equal steps have no gap, and no triad, however wide it is taken.
		{cardAt(5, 0, 5, 4, 5, 9), 4, nil},
		{cardAt(5, 0, 5, 4, 13, 9), 4, nil},
		// The gaps are 7, 8 and 9.
		{cardAt(0, 0, 7, 0, 15, 0), 0, nil},
		{cardAt(0, 0, 7, 0, 15, 0), 1, [][]int{{1, 2, 3}}},
		// The gaps are 4, 8 and 12, and 3, 9 and 12.
		{cardAt(0, 0, 4, 0, 12, 0), 3, nil},
		{cardAt(0, 0, 4, 0, 12, 0), 4, [][]int{{1, 2, 3}}},
		{cardAt(0, 0, 3, 0, 12, 0), 4, nil},
		{cardAt(0, 0, 8, 0), 4, nil},
		{cardAt(0, 0), 4, nil},
		{nil, 0, nil},
	} {
		if triads, ok := impl.TriadsOf(c.card, c.within); !ok || !sameLists(triads, c.want) {
			t.Errorf("TriadsOf(%v, %d) = %v, %v", c.card, c.within, triads, ok)
		}
	}
}

func TestTriadsOfByTriples(t *testing.T) {
	found := 0
	for _, card := range mixedCards() {
		for within := range 5 {
			fits := func(a, b impl.Shade) bool {
				gap := gapByWalk(a.Wheel, b.Wheel)
				return gap >= 8-within && gap <= 8+within
			}
			var want [][]int
			for i, a := range card {
				for j, b := range card {
					for k, c := range card {
						if i < j && j < k && fits(a, b) && fits(b, c) && fits(c, a) {
							want = append(want, []int{a.Id, b.Id, c.Id})
						}
					}
				}
			}
			found += len(want)
			if triads, ok := impl.TriadsOf(card, within); !ok || !sameLists(triads, want) {
				t.Fatalf("TriadsOf(%v, %d) = %v, %v, not %v", card, within, triads, ok, want)
			}
		}
	}
	if found == 0 {
		t.Error("no card has a triad")
	}
}

func TestTriadsOfRefuses(t *testing.T) {
	for _, card := range invalidCards() {
		if triads, ok := impl.TriadsOf(card, 4); ok || len(triads) != 0 {
			t.Errorf("TriadsOf(%v, 4) = %v, %v", card, triads, ok)
		}
	}
	card := cardAt(0, 0, 8, 0, 16, 0)
	for _, within := range []int{math.MinInt, -1 << 32, -1, 5, 8, 12, 1 << 32, math.MaxInt} {
		for _, list := range [][]impl.Shade{card, nil} {
			if triads, ok := impl.TriadsOf(list, within); ok || len(triads) != 0 {
				t.Errorf("TriadsOf(%v, %d) = %v, %v", list, within, triads, ok)
			}
		}
	}
}

func TestWheelOrder(t *testing.T) {
	for _, c := range []struct {
		card []impl.Shade
		from int
		want []int
	}{
		{cardAt(0, 5, 16, 9, 8, 2), 5, []int{3, 2, 1}},
		{cardAt(0, 5, 16, 9, 8, 2), 0, []int{1, 3, 2}},
		{cardAt(0, 5, 16, 9, 8, 2), 8, []int{3, 2, 1}},
		{cardAt(0, 5, 16, 9, 8, 2), 9, []int{2, 1, 3}},
		{cardAt(0, 5, 16, 9, 8, 2), 23, []int{1, 3, 2}},
		{cardAt(23, 0, 0, 0, 22, 0), 23, []int{1, 2, 3}},
		{cardAt(23, 0, 0, 0, 22, 0), 0, []int{2, 3, 1}},
		// Equal steps: the light ones first, and of these the smaller Id.
		{cardAt(7, 9, 7, 0, 7, 5, 7, 0, 7, 9), 7, []int{2, 4, 3, 1, 5}},
		{cardAt(7, 9, 7, 0, 7, 5, 7, 0, 6, 9), 7, []int{2, 4, 3, 1, 5}},
		{cardAt(7, 9, 7, 0, 7, 5, 7, 0, 6, 9), 6, []int{5, 2, 4, 3, 1}},
		{cardAt(3, 3, 3, 3, 3, 3), 4, []int{1, 2, 3}},
		{cardAt(12, 1), 13, []int{1}},
		{nil, 0, nil},
		{[]impl.Shade{}, 23, nil},
	} {
		if ids, ok := impl.WheelOrder(c.card, c.from); !ok || !slices.Equal(ids, c.want) {
			t.Errorf("WheelOrder(%v, %d) = %v, %v", c.card, c.from, ids, ok)
		}
	}
}

// idsByWalk walks once around the wheel and takes the Shades at each step, from light to dark.
func idsByWalk(card []impl.Shade, from int) []int {
	var ids []int
	for i := range 24 {
		for depth := range 10 {
			for _, s := range card {
				if s.Wheel == (from+i)%24 && s.Depth == depth {
					ids = append(ids, s.Id)
				}
			}
		}
	}
	return ids
}

func TestWheelOrderHasAllShades(t *testing.T) {
	for _, card := range mixedCards() {
		given := slices.Clone(card)
		for from := range impl.WheelSteps {
			ids, ok := impl.WheelOrder(card, from)
			if !ok || !slices.Equal(ids, idsByWalk(card, from)) {
				t.Fatalf("WheelOrder(%v, %d) = %v, %v", card, from, ids, ok)
			}
			slices.Sort(ids)
			if !slices.Equal(ids, idsOf(card)) {
				t.Errorf("the order of %v from %d has the Ids %v", card, from, ids)
			}
		}
		if !slices.Equal(card, given) {
			t.Errorf("%v has become %v", given, card)
		}
	}
}

func TestWheelOrderRefuses(t *testing.T) {
	for _, card := range invalidCards() {
		if ids, ok := impl.WheelOrder(card, 0); ok || len(ids) != 0 {
			t.Errorf("WheelOrder(%v, 0) = %v, %v", card, ids, ok)
		}
	}
	for _, from := range []int{math.MinInt, math.MinInt + 1, -1 << 32, -24, -1, 24, 25, 48, 1 << 32, math.MaxInt} {
		for _, card := range [][]impl.Shade{cardAt(0, 0, 8, 0, 16, 0), nil} {
			if ids, ok := impl.WheelOrder(card, from); ok || len(ids) != 0 {
				t.Errorf("WheelOrder(%v, %d) = %v, %v", card, from, ids, ok)
			}
		}
	}
}

func TestShadeText(t *testing.T) {
	for text, s := range map[string]impl.Shade{
		"1 madder at 0, depth 5, fast 3":       {Id: 1, Name: "madder", Wheel: 0, Depth: 5, Fast: 3},
		"99 abcdefghij at 23, depth 9, fast 8": {Id: 99, Name: "abcdefghij", Wheel: 23, Depth: 9, Fast: 8},
		"10 a at 10, depth 0, fast 1":          {Id: 10, Name: "a", Wheel: 10, Depth: 0, Fast: 1},
		"2 at at 1, depth 1, fast 1":           {Id: 2, Name: "at", Wheel: 1, Depth: 1, Fast: 1},
		"3 depth at 1, depth 2, fast 1":        {Id: 3, Name: "depth", Wheel: 1, Depth: 2, Fast: 1},
	} {
		if got, ok := impl.ShadeText(s); !ok || got != text {
			t.Errorf("ShadeText(%v) = %q, %v", s, got, ok)
		}
		if got, ok := impl.ParseShade(text); !ok || got != s {
			t.Errorf("ParseShade(%q) = %v, %v", text, got, ok)
		}
	}
	for _, s := range invalidShades() {
		if text, ok := impl.ShadeText(s); ok || text != "" {
			t.Errorf("ShadeText(%v) = %q, %v", s, text, ok)
		}
	}
}

func TestShadeTextsRoundTrip(t *testing.T) {
	for id := 1; id <= 99; id++ {
		for place := range 24 * 10 * 8 {
			s := impl.Shade{Id: id, Name: shadeNames[place%11], Wheel: place / 80, Depth: place / 8 % 10, Fast: place%8 + 1}
			want := strconv.Itoa(s.Id) + " " + s.Name + " at " + strconv.Itoa(s.Wheel) + ", depth " + strconv.Itoa(s.Depth) + ", fast " + strconv.Itoa(s.Fast)
			text, ok := impl.ShadeText(s)
			if !ok || text != want {
				t.Fatalf("ShadeText(%v) = %q, %v", s, text, ok)
			}
			if back, ok := impl.ParseShade(text); !ok || back != s {
				t.Fatalf("ParseShade(%q) = %v, %v", text, back, ok)
			}
		}
	}
}

func TestParseShadeRefuses(t *testing.T) {
	texts := append(oddTexts(),
		"1", "1 ", "1 madder", "1 madder at", "1 madder at ", "1 madder at 0", "1 madder at 0, depth 5", "1 madder at 0, depth 5, fast ",
		"0 madder at 0, depth 5, fast 3", "100 madder at 0, depth 5, fast 3", "-1 madder at 0, depth 5, fast 3", "01 madder at 0, depth 5, fast 3",
		"+1 madder at 0, depth 5, fast 3", " madder at 0, depth 5, fast 3", "x madder at 0, depth 5, fast 3", "18446744073709551617 madder at 0, depth 5, fast 3",
		"1  at 0, depth 5, fast 3", "1 at 0, depth 5, fast 3", "1 abcdefghijk at 0, depth 5, fast 3", "1 Madder at 0, depth 5, fast 3",
		"1 mad der at 0, depth 5, fast 3", "1  madder at 0, depth 5, fast 3", "1 madder  at 0, depth 5, fast 3", "1 madder at 0 at 0, depth 5, fast 3",
		"1 madder at 24, depth 5, fast 3", "1 madder at -1, depth 5, fast 3", "1 madder at -0, depth 5, fast 3", "1 madder at 00, depth 5, fast 3",
		"1 madder at , depth 5, fast 3", "1 madder at x, depth 5, fast 3", "1 madder at  0, depth 5, fast 3", "1 madder at 0 , depth 5, fast 3",
		"1 madder at 0, depth 10, fast 3", "1 madder at 0, depth -1, fast 3", "1 madder at 0, depth -0, fast 3", "1 madder at 0, depth , fast 3",
		"1 madder at 0, depth x, fast 3", "1 madder at 0, depth 05, fast 3", "1 madder at 0, depth 5, depth 5, fast 3", "1 madder at 0 depth 5, fast 3",
		"1 madder at 0, depth 5, fast 0", "1 madder at 0, depth 5, fast 9", "1 madder at 0, depth 5, fast 03", "1 madder at 0, depth 5, fast -3",
		"1 madder at 0, depth 5, fast x", "1 madder at 0, depth 5, fast 3 ", "1 madder at 0, depth 5, fast 3\n", "1 madder at 0, depth 5, fast 3, fast 3",
		" 1 madder at 0, depth 5, fast 3", "1 madder at 0, fast 3, depth 5", "1 madder At 0, depth 5, fast 3", "1,madder at 0, depth 5, fast 3",
		"1 "+strings.Repeat("a", 100000)+" at 0, depth 5, fast 3", strings.Repeat("1 madder at 0, depth 5, fast 3", 2),
	)
	for _, text := range texts {
		if s, ok := impl.ParseShade(text); ok || s != (impl.Shade{}) {
			t.Errorf("ParseShade(%.40q) = %v, %v", text, s, ok)
		}
	}
}

// Of all texts that differ from a ShadeText by one byte, ParseShade takes exactly those that are one, too.
func TestParseShadeTakesOnlyShadeTexts(t *testing.T) {
	taken := 0
	text := "12 lac at 20, depth 3, fast 4"
	check := func(changed string) {
		s, ok := impl.ParseShade(changed)
		if !ok {
			if s != (impl.Shade{}) {
				t.Errorf("ParseShade(%q) = %v, false", changed, s)
			}
			return
		}
		taken++
		if back, fine := impl.ShadeText(s); !fine || back != changed {
			t.Errorf("ParseShade(%q) = %v, which is %q", changed, s, back)
		}
	}
	for i := range len(text) {
		check(text[:i] + text[i+1:])
		for c := range 256 {
			check(text[:i] + string([]byte{byte(c)}) + text[i+1:])
			check(text[:i] + string([]byte{byte(c)}) + text[i:])
		}
	}
	// Without a byte: 2 for the Id, 3 for the Name, 2 for the Wheel.
	// With another one, or the same: 9 and 10 for the Id, 26 for each letter, 2 and 4 for the Wheel, 10 for the Depth, 8 for Fast, and 1 for each of the other 20 bytes.
	// With one more: 26 for each of 4 places in the Name; no number with one more digit is valid.
	if want := 2 + 3 + 2 + 9 + 10 + 3*26 + 2 + 4 + 10 + 8 + 20 + 4*26; taken != want {
		t.Errorf("%d texts are Shades, not %d", taken, want)
	}
}

func TestColorResultsShareNoMemory(t *testing.T) {
	s := impl.Shade{Id: 1, Name: strings.Repeat("a", 10), Wheel: 0, Depth: 5, Fast: 3}
	faded, _ := impl.FadedShade(s, 0)
	text, _ := impl.ShadeText(s)
	parsed, _ := impl.ParseShade(text)
	if faded != s || parsed != s {
		t.Fatal("results", faded, parsed)
	}
	if unsafe.StringData(faded.Name) == unsafe.StringData(s.Name) {
		t.Error("a faded Shade shares the Name of its argument")
	}
	if unsafe.StringData(parsed.Name) == unsafe.StringData(text[2:]) {
		t.Error("a parsed Shade shares the memory of its text")
	}
}

// colorResults calls each function that returns lists of Ids, and returns all of them.
func colorResults(card []impl.Shade) [][]int {
	pairs, _ := impl.FadedApart(card, 200, 1)
	triads, _ := impl.TriadsOf(card, 4)
	order, _ := impl.WheelOrder(card, 3)
	return append(slices.Concat(pairs, triads), order)
}

// Whatever is written to one list, over all of its memory, neither another one nor the card changes.
func TestColorResultsAreSeparate(t *testing.T) {
	for _, card := range mixedCards()[2:] {
		given := slices.Clone(card)
		results := append(colorResults(card), colorResults(card)...)
		checkSeparate(t, results, -1)
		if !slices.Equal(card, given) {
			t.Errorf("%v has become %v", given, card)
		}
	}
}

// Each function returns for odd numbers and odd cards, changes no card, and does the same at each call.
func TestColorFunctionsAreTotal(t *testing.T) {
	for _, card := range append(invalidCards(), nil, mixedCard(1, 3), mixedCard(10, 4)) {
		given := slices.Clone(card)
		for _, a := range append(oddNumbers(), 4, 12, 23, 24, 33, 34, 200, 201) {
			for _, b := range append(oddNumbers(), 10, 33, 34) {
				id, ok := impl.NearestShade(card, a, b)
				if again, fine := impl.NearestShade(card, a, b); again != id || fine != ok {
					t.Errorf("NearestShade(%v, %d, %d) differs from call to call", card, a, b)
				}
				pairs, ok := impl.FadedApart(card, a, b)
				if again, fine := impl.FadedApart(card, a, b); !sameLists(again, pairs) || fine != ok {
					t.Errorf("FadedApart(%v, %d, %d) differs from call to call", card, a, b)
				}
			}
			triads, ok := impl.TriadsOf(card, a)
			if again, fine := impl.TriadsOf(card, a); !sameLists(again, triads) || fine != ok {
				t.Errorf("TriadsOf(%v, %d) differs from call to call", card, a)
			}
			ids, ok := impl.WheelOrder(card, a)
			if again, fine := impl.WheelOrder(card, a); !slices.Equal(again, ids) || fine != ok {
				t.Errorf("WheelOrder(%v, %d) differs from call to call", card, a)
			}
		}
		if !slices.Equal(card, given) {
			t.Errorf("%v has become %v", given, card)
		}
	}
}

package tests

import (
	"fmt"
	"math"
	"slices"
	"strings"
	"testing"
	"unsafe"

	"loop.example/g01023/impl"
)

// stuffNames are more different words than a recipe has parts, in ascending order.
var stuffNames = []string{"a", "aa", "alum", "alumx", "indigo", "lac", "madder", "walnut", "weld", "z", "zzzzzzzzzz"}

// recipeOf returns a recipe of the first words, with these PerMils.
func recipeOf(perMils ...int) []impl.DyePart {
	var recipe []impl.DyePart
	for i, n := range perMils {
		recipe = append(recipe, impl.DyePart{Stuff: stuffNames[i], PerMil: n})
	}
	return recipe
}

// dyeNumbers returns a source of numbers that look random and are the same in each run.
func dyeNumbers(seed int) func(below int) int {
	state := seed*7919 + 17
	return func(below int) int {
		state = (state*1103515245 + 12345) % (1 << 31)
		return state / 64 % below
	}
}

// mixedRecipe returns a recipe of a length, depending on a seed; its stuffs are some of the words.
func mixedRecipe(length, seed int) []impl.DyePart {
	next := dyeNumbers(seed)
	names := slices.Clone(stuffNames)
	for len(names) > length {
		at := next(len(names))
		names = slices.Delete(names, at, at+1)
	}
	var recipe []impl.DyePart
	for _, name := range names {
		recipe = append(recipe, impl.DyePart{Stuff: name, PerMil: next([]int{1, 3, 40, 1000}[seed%4]) + 1})
	}
	return recipe
}

// mixedRecipes returns recipes of all lengths.
func mixedRecipes() [][]impl.DyePart {
	recipes := [][]impl.DyePart{
		recipeOf(1), recipeOf(1000), recipeOf(999), recipeOf(1, 1, 1, 1, 1, 1), recipeOf(1000, 1000, 1000, 1000, 1000, 1000), recipeOf(1, 1000, 500, 333, 7, 250),
	}
	for length := 1; length <= impl.MaxParts; length++ {
		for seed := range 8 {
			recipes = append(recipes, mixedRecipe(length, seed))
		}
	}
	return recipes
}

// bathOf returns a hot Bath with much water.
func bathOf(yarn int, stuffs ...int) impl.Bath {
	return impl.Bath{Liters: 500, Heat: 80, Yarn: yarn, Stuffs: stuffs}
}

// fullBath returns a hot Bath with much water and much of each stuff of a recipe.
func fullBath(recipe []impl.DyePart, yarn int) impl.Bath {
	return bathOf(yarn, slices.Repeat([]int{50000}, len(recipe))...)
}

// mixedBaths returns Baths for a recipe, with numbers at the limits and between; some have just what their yarn needs, or a gram less of one stuff.
func mixedBaths(recipe []impl.DyePart, seed int) []impl.Bath {
	next := dyeNumbers(seed)
	var baths []impl.Bath
	for _, yarn := range []int{0, 1, 2, 999, 1000, 1001, 1500, 2000, 24999, 25000, 25001, 50000, next(50001), next(5000)} {
		b := impl.Bath{Liters: []int{1, 19, 20, 21, 39, 40, 60, 499, 500}[next(9)], Heat: []int{0, 59, 60, 61, 80, 94, 95, 96, 100}[next(9)], Yarn: yarn}
		ready := impl.Bath{Liters: min(500, 20*kilosBegun(yarn)+1), Heat: 60 + next(36), Yarn: yarn}
		for _, part := range recipe {
			b.Stuffs = append(b.Stuffs, next([]int{50001, 1000, 30}[next(3)]))
			ready.Stuffs = append(ready.Stuffs, gramsFor(part.PerMil, yarn))
		}
		baths = append(baths, b, ready)
		if at := next(len(recipe)); ready.Stuffs[at] > 0 {
			short := cloneBath(ready)
			short.Stuffs[at]--
			baths = append(baths, short)
		}
	}
	return append(baths, fullBath(recipe, 0), fullBath(recipe, 25000), bathOf(0, make([]int, len(recipe))...))
}

func cloneBath(b impl.Bath) impl.Bath {
	b.Stuffs = slices.Clone(b.Stuffs)
	return b
}

func sameBath(a, b impl.Bath) bool {
	return a.Liters == b.Liters && a.Heat == b.Heat && a.Yarn == b.Yarn && slices.Equal(a.Stuffs, b.Stuffs)
}

func isNoBath(b impl.Bath) bool { return sameBath(b, impl.Bath{}) }

// kilosBegun counts the kilograms that some grams have begun.
func kilosBegun(grams int) int {
	kilos := 0
	for kilos*1000 < grams {
		kilos++
	}
	return kilos
}

// gramsFor returns the smallest number of grams that are not less than PerMil for each 1000 grams of yarn.
func gramsFor(perMil, yarn int) int {
	grams := perMil * yarn / 1000
	for grams*1000 < perMil*yarn {
		grams++
	}
	return grams
}

// isReadyByRules tells from the rules of the document whether a valid Bath is ready for an amount of yarn.
func isReadyByRules(recipe []impl.DyePart, b impl.Bath, yarn int) bool {
	for i, part := range recipe {
		if b.Stuffs[i]*1000 < part.PerMil*yarn {
			return false
		}
	}
	return b.Heat >= 60 && b.Heat <= 95 && b.Liters >= 20*kilosBegun(yarn)
}

// invalidRecipes returns lists that are no recipes.
func invalidRecipes() [][]impl.DyePart {
	a, b, c := impl.DyePart{Stuff: "alum", PerMil: 200}, impl.DyePart{Stuff: "madder", PerMil: 500}, impl.DyePart{Stuff: "weld", PerMil: 1}
	recipes := [][]impl.DyePart{
		nil, {}, {{}}, {{Stuff: "alum"}}, {{PerMil: 1}}, {b, a}, {a, a}, {a, c, b}, {b, a, c}, {a, b, b}, {a, a, b}, {c, b, a},
		{a, {Stuff: "alum", PerMil: 300}}, {{Stuff: "alumx", PerMil: 1}, a},
		recipeOf(1, 1, 1, 1, 1, 1, 1), recipeOf(1, 2, 3, 4, 5, 6, 7, 8, 9, 10, 11), slices.Repeat([]impl.DyePart{a}, 1000),
	}
	for _, n := range []int{math.MinInt, -1 << 32, -200, -1, 0, 1001, 1002, 1<<32 + 200, 1 << 62, math.MaxInt} {
		odd := impl.DyePart{Stuff: "lac", PerMil: n}
		recipes = append(recipes, []impl.DyePart{odd}, []impl.DyePart{a, odd}, []impl.DyePart{odd, b}, []impl.DyePart{a, odd, b})
	}
	for _, name := range invalidNames() {
		odd := impl.DyePart{Stuff: name, PerMil: 1}
		recipes = append(recipes, []impl.DyePart{odd}, []impl.DyePart{a, odd}, []impl.DyePart{odd, b}, []impl.DyePart{a, odd, b})
	}
	return recipes
}

// dyeRecipe is the recipe for which the invalid Baths are made.
func dyeRecipe() []impl.DyePart {
	return []impl.DyePart{{Stuff: "alum", PerMil: 200}, {Stuff: "madder", PerMil: 500}}
}

// invalidBaths returns Baths of which one field is not valid for the dyeRecipe.
func invalidBaths() []impl.Bath {
	baths := []impl.Bath{
		{}, bathOf(0), {Liters: 500, Heat: 80, Stuffs: []int{}}, bathOf(0, 400), bathOf(0, 400, 800, 0), bathOf(0, 400, 800, 400, 800), bathOf(0, make([]int, 1000)...),
	}
	for _, n := range []int{math.MinInt, -1 << 32, -40, -1, 0, 501, 502, 1<<32 + 40, math.MaxInt} {
		baths = append(baths, impl.Bath{Liters: n, Heat: 80, Yarn: 0, Stuffs: []int{400, 800}})
	}
	for _, n := range []int{math.MinInt, -1 << 32, -80, -1, 101, 102, 1<<32 + 80, math.MaxInt} {
		baths = append(baths, impl.Bath{Liters: 40, Heat: n, Yarn: 0, Stuffs: []int{400, 800}})
	}
	for _, n := range []int{math.MinInt, -1 << 32, -1500, -1, 50001, 50002, 1 << 32, math.MaxInt} {
		baths = append(baths, bathOf(n, 400, 800), bathOf(0, n, 800), bathOf(0, 400, n), bathOf(0, n, n))
	}
	return baths
}

// stuffsLike returns the stuffs of a Bath for a list that need be no recipe.
func stuffsLike(recipe []impl.DyePart) []int { return slices.Repeat([]int{1000}, len(recipe)) }

func TestDyeConstants(t *testing.T) {
	if impl.MaxParts != 6 {
		t.Error("limit", impl.MaxParts)
	}
}

func TestIsRecipe(t *testing.T) {
	for _, recipe := range append(mixedRecipes(),
		[]impl.DyePart{{Stuff: "alum", PerMil: 1}, {Stuff: "alumx", PerMil: 1}},
		[]impl.DyePart{{Stuff: "abcdefghij", PerMil: 1000}, {Stuff: "b", PerMil: 1000}},
	) {
		if !impl.IsRecipe(recipe) {
			t.Errorf("%v is no recipe", recipe)
		}
	}
	for _, recipe := range invalidRecipes() {
		if impl.IsRecipe(recipe) {
			t.Errorf("%v is a recipe", recipe)
		}
	}
	for n := -5; n <= 1005; n++ {
		if impl.IsRecipe(recipeOf(1, n, 1)) != (n >= 1 && n <= 1000) {
			t.Errorf("a recipe with a PerMil of %d is one, or none", n)
		}
	}
	for length := range len(stuffNames) + 1 {
		if impl.IsRecipe(recipeOf(slices.Repeat([]int{5}, length)...)) != (length >= 1 && length <= 6) {
			t.Errorf("a list of %d parts is a recipe, or none", length)
		}
	}
}

// Each part of a full recipe must be valid, and each stuff greater than the one before it.
func TestIsRecipeChecksEachPart(t *testing.T) {
	full := recipeOf(1, 2, 3, 4, 5, 6)
	for i := range full {
		for _, name := range invalidNames() {
			changed := slices.Clone(full)
			changed[i].Stuff = name
			if impl.IsRecipe(changed) {
				t.Errorf("%v is a recipe", changed)
			}
		}
		for _, n := range []int{math.MinInt, -1, 0, 1001, math.MaxInt} {
			changed := slices.Clone(full)
			changed[i].PerMil = n
			if impl.IsRecipe(changed) {
				t.Errorf("%v is a recipe", changed)
			}
		}
		for j := range full {
			changed := slices.Clone(full)
			changed[i].Stuff = full[j].Stuff
			if impl.IsRecipe(changed) != (i == j) {
				t.Errorf("%v is a recipe, or none", changed)
			}
			swapped := slices.Clone(full)
			swapped[i], swapped[j] = full[j], full[i]
			if impl.IsRecipe(swapped) != (i == j) {
				t.Errorf("%v is a recipe, or none", swapped)
			}
		}
	}
}

func TestIsBath(t *testing.T) {
	recipe := dyeRecipe()
	for _, b := range []impl.Bath{
		{Liters: 1, Heat: 0, Yarn: 0, Stuffs: []int{0, 0}}, {Liters: 500, Heat: 100, Yarn: 50000, Stuffs: []int{50000, 50000}},
		{Liters: 1, Heat: 100, Yarn: 50000, Stuffs: []int{0, 50000}}, {Liters: 40, Heat: 80, Yarn: 1500, Stuffs: []int{400, 800}},
	} {
		if !impl.IsBath(recipe, b) {
			t.Errorf("%v is no Bath", b)
		}
	}
	for _, b := range invalidBaths() {
		if impl.IsBath(recipe, b) {
			t.Errorf("%v is a Bath", b)
		}
	}
	for i, recipe := range mixedRecipes() {
		for _, b := range mixedBaths(recipe, i) {
			if !impl.IsBath(recipe, b) {
				t.Errorf("%v is no Bath for %v", b, recipe)
			}
			more, fewer := cloneBath(b), cloneBath(b)
			more.Stuffs = append(more.Stuffs, 0)
			fewer.Stuffs = fewer.Stuffs[1:]
			if impl.IsBath(recipe, more) || impl.IsBath(recipe, fewer) {
				t.Errorf("%v or %v is a Bath for %v", more, fewer, recipe)
			}
		}
	}
}

// Without a recipe there is no Bath, even if it has as many stuffs.
func TestIsBathNeedsARecipe(t *testing.T) {
	for _, recipe := range invalidRecipes() {
		for _, stuffs := range [][]int{stuffsLike(recipe), {1, 2}, {}} {
			if b := bathOf(0, stuffs...); impl.IsBath(recipe, b) {
				t.Errorf("%v is a Bath for %v", b, recipe)
			}
		}
	}
}

// What lies beyond the length of a list does not matter.
func TestDyesBeyondLength(t *testing.T) {
	recipe := append(dyeRecipe(), impl.DyePart{Stuff: "Bad", PerMil: -1}, impl.DyePart{Stuff: "weld", PerMil: 3})
	stuffs := []int{400, 800, -1, 99999}
	givenRecipe, givenStuffs := slices.Clone(recipe), slices.Clone(stuffs)
	b := bathOf(1500, stuffs[:2]...)
	if !impl.IsRecipe(recipe[:2]) || !impl.IsBath(recipe[:2], b) {
		t.Error("a part of a longer list is no recipe, or no Bath")
	}
	if left, ok := impl.DyeYarn(recipe[:2], b); !ok || !sameBath(left, bathOf(0, 100, 50)) {
		t.Error("dyed", left, ok)
	}
	if fuller, ok := impl.AddStuff(recipe[:2], b, "weld", 1); ok || !isNoBath(fuller) {
		t.Error("added", fuller, ok)
	}
	if mixed, ok := impl.MixRecipes(recipe[:2], recipe[:1], 50); !ok || !slices.Equal(mixed, []impl.DyePart{{Stuff: "alum", PerMil: 200}, {Stuff: "madder", PerMil: 250}}) {
		t.Error("mixed", mixed, ok)
	}
	if !slices.Equal(recipe, givenRecipe) || !slices.Equal(stuffs, givenStuffs) {
		t.Errorf("%v has become %v, or %v has become %v", givenRecipe, recipe, givenStuffs, stuffs)
	}
}

func TestNeedsFor(t *testing.T) {
	for _, c := range []struct {
		recipe []impl.DyePart
		yarn   int
		want   []int
	}{
		{dyeRecipe(), 1500, []int{300, 750}},
		{dyeRecipe(), 0, []int{0, 0}},
		// A gram of yarn needs a gram of each stuff, however little is asked for.
		{dyeRecipe(), 1, []int{1, 1}},
		{recipeOf(1, 999, 1000), 1, []int{1, 1, 1}},
		{recipeOf(1, 999, 1000), 2, []int{1, 2, 2}},
		{recipeOf(1, 999, 1000), 999, []int{1, 999, 999}},
		{recipeOf(1, 999, 1000), 1000, []int{1, 999, 1000}},
		{recipeOf(1, 999, 1000), 1001, []int{2, 1000, 1001}},
		{recipeOf(1, 500, 1000), 50000, []int{50, 25000, 50000}},
		{recipeOf(1, 500, 1000), 49999, []int{50, 25000, 49999}},
		{recipeOf(333), 3, []int{1}}, {recipeOf(333), 4, []int{2}}, {recipeOf(334), 3, []int{2}},
		{recipeOf(125), 8, []int{1}}, {recipeOf(125), 9, []int{2}}, {recipeOf(125), 16, []int{2}},
		{recipeOf(1, 2, 3, 4, 5, 6), 200, []int{1, 1, 1, 1, 1, 2}},
	} {
		if needs, ok := impl.NeedsFor(c.recipe, c.yarn); !ok || !slices.Equal(needs, c.want) {
			t.Errorf("NeedsFor(%v, %d) = %v, %v", c.recipe, c.yarn, needs, ok)
		}
	}
}

// Each PerMil, with many amounts of yarn.
func TestNeedsForByGrams(t *testing.T) {
	yarns := []int{0, 1, 2, 3, 7, 8, 9, 10, 99, 100, 101, 499, 500, 501, 999, 1000, 1001, 1999, 2000, 2001, 12345, 24999, 25000, 33333, 49999, 50000}
	for perMil := 1; perMil <= 1000; perMil++ {
		for _, yarn := range yarns {
			needs, ok := impl.NeedsFor(recipeOf(1001-perMil, perMil), yarn)
			if want := []int{gramsFor(1001-perMil, yarn), gramsFor(perMil, yarn)}; !ok || !slices.Equal(needs, want) {
				t.Fatalf("NeedsFor(%d and %d, %d) = %v, %v, not %v", 1001-perMil, perMil, yarn, needs, ok, want)
			}
		}
	}
	for yarn := range 50001 {
		if needs, ok := impl.NeedsFor(recipeOf(7, 250, 999), yarn); !ok || !slices.Equal(needs, []int{gramsFor(7, yarn), gramsFor(250, yarn), gramsFor(999, yarn)}) {
			t.Fatalf("NeedsFor(7, 250 and 999, %d) = %v, %v", yarn, needs, ok)
		}
	}
}

func TestNeedsForRefuses(t *testing.T) {
	for _, yarn := range []int{math.MinInt, -1 << 32, -1000, -1, 50001, 50002, 1 << 32, 1 << 62, math.MaxInt} {
		if needs, ok := impl.NeedsFor(dyeRecipe(), yarn); ok || len(needs) != 0 {
			t.Errorf("NeedsFor(.., %d) = %v, %v", yarn, needs, ok)
		}
	}
	for _, recipe := range invalidRecipes() {
		for _, yarn := range []int{0, 1, 1500, 50000} {
			if needs, ok := impl.NeedsFor(recipe, yarn); ok || len(needs) != 0 {
				t.Errorf("NeedsFor(%v, %d) = %v, %v", recipe, yarn, needs, ok)
			}
		}
	}
}

func TestIsReady(t *testing.T) {
	for _, c := range []struct {
		b    impl.Bath
		want bool
	}{
		{impl.Bath{Liters: 40, Heat: 80, Yarn: 1500, Stuffs: []int{400, 800}}, true},
		// Just enough of each stuff, and a gram less.
		{impl.Bath{Liters: 30, Heat: 80, Yarn: 1500, Stuffs: []int{300, 750}}, false},
		{impl.Bath{Liters: 40, Heat: 80, Yarn: 1500, Stuffs: []int{300, 750}}, true},
		{impl.Bath{Liters: 40, Heat: 80, Yarn: 1500, Stuffs: []int{299, 750}}, false},
		{impl.Bath{Liters: 40, Heat: 80, Yarn: 1500, Stuffs: []int{300, 749}}, false},
		{impl.Bath{Liters: 40, Heat: 80, Yarn: 1501, Stuffs: []int{300, 750}}, false},
		{impl.Bath{Liters: 40, Heat: 80, Yarn: 1501, Stuffs: []int{301, 750}}, false},
		{impl.Bath{Liters: 40, Heat: 80, Yarn: 1501, Stuffs: []int{301, 751}}, true},
		// Just enough water for the kilograms that have begun, and a liter less.
		{impl.Bath{Liters: 20, Heat: 80, Yarn: 1000, Stuffs: []int{400, 800}}, true},
		{impl.Bath{Liters: 19, Heat: 80, Yarn: 1000, Stuffs: []int{400, 800}}, false},
		{impl.Bath{Liters: 20, Heat: 80, Yarn: 1001, Stuffs: []int{400, 800}}, false},
		{impl.Bath{Liters: 39, Heat: 80, Yarn: 1001, Stuffs: []int{400, 800}}, false},
		{impl.Bath{Liters: 40, Heat: 80, Yarn: 1001, Stuffs: []int{400, 800}}, true},
		{impl.Bath{Liters: 500, Heat: 80, Yarn: 25000, Stuffs: []int{5000, 12500}}, true},
		{impl.Bath{Liters: 500, Heat: 80, Yarn: 25001, Stuffs: []int{50000, 50000}}, false},
		{impl.Bath{Liters: 500, Heat: 80, Yarn: 50000, Stuffs: []int{50000, 50000}}, false},
		// A gram begins a kilogram and takes a gram of each stuff.
		{impl.Bath{Liters: 20, Heat: 80, Yarn: 1, Stuffs: []int{1, 1}}, true},
		{impl.Bath{Liters: 19, Heat: 80, Yarn: 1, Stuffs: []int{1, 1}}, false},
		{impl.Bath{Liters: 20, Heat: 80, Yarn: 1, Stuffs: []int{0, 1}}, false},
		{impl.Bath{Liters: 20, Heat: 80, Yarn: 1, Stuffs: []int{1, 0}}, false},
		// No yarn takes nothing but the Heat.
		{impl.Bath{Liters: 1, Heat: 80, Yarn: 0, Stuffs: []int{0, 0}}, true},
		{impl.Bath{Liters: 1, Heat: 59, Yarn: 0, Stuffs: []int{0, 0}}, false},
	} {
		if ready, ok := impl.IsReady(dyeRecipe(), c.b); !ok || ready != c.want {
			t.Errorf("IsReady(%v) = %v, %v", c.b, ready, ok)
		}
	}
	for heat := range 101 {
		for _, yarn := range []int{0, 1, 1500} {
			b := impl.Bath{Liters: 40, Heat: heat, Yarn: yarn, Stuffs: []int{400, 800}}
			if ready, ok := impl.IsReady(dyeRecipe(), b); !ok || ready != (heat >= 60 && heat <= 95) {
				t.Errorf("IsReady(%v) = %v, %v", b, ready, ok)
			}
		}
	}
}

func TestIsReadyByRules(t *testing.T) {
	found := map[bool]int{}
	for i, recipe := range mixedRecipes() {
		for _, b := range mixedBaths(recipe, i) {
			ready, ok := impl.IsReady(recipe, b)
			if !ok || ready != isReadyByRules(recipe, b, b.Yarn) {
				t.Errorf("IsReady(%v, %v) = %v, %v", recipe, b, ready, ok)
			}
			found[ready]++
		}
	}
	if found[true] < 100 || found[false] < 100 {
		t.Error("ready and not", found)
	}
}

func TestMostYarn(t *testing.T) {
	for _, c := range []struct {
		recipe []impl.DyePart
		b      impl.Bath
		want   int
	}{
		{dyeRecipe(), impl.Bath{Liters: 40, Heat: 80, Yarn: 1500, Stuffs: []int{400, 800}}, 1600},
		{dyeRecipe(), impl.Bath{Liters: 40, Heat: 80, Yarn: 1500, Stuffs: []int{300, 800}}, 1500},
		{dyeRecipe(), impl.Bath{Liters: 40, Heat: 80, Yarn: 0, Stuffs: []int{400, 801}}, 1602},
		{dyeRecipe(), impl.Bath{Liters: 40, Heat: 80, Yarn: 50000, Stuffs: []int{400, 5000}}, 2000},
		{dyeRecipe(), impl.Bath{Liters: 39, Heat: 80, Yarn: 0, Stuffs: []int{400, 800}}, 1000},
		{dyeRecipe(), impl.Bath{Liters: 20, Heat: 60, Yarn: 0, Stuffs: []int{400, 800}}, 1000},
		{dyeRecipe(), impl.Bath{Liters: 19, Heat: 95, Yarn: 0, Stuffs: []int{400, 800}}, 0},
		{dyeRecipe(), impl.Bath{Liters: 1, Heat: 80, Yarn: 7, Stuffs: []int{400, 800}}, 0},
		{dyeRecipe(), impl.Bath{Liters: 500, Heat: 80, Yarn: 0, Stuffs: []int{50000, 50000}}, 25000},
		{dyeRecipe(), impl.Bath{Liters: 499, Heat: 80, Yarn: 0, Stuffs: []int{50000, 50000}}, 24000},
		{dyeRecipe(), impl.Bath{Liters: 500, Heat: 80, Yarn: 0, Stuffs: []int{50000, 0}}, 0},
		{dyeRecipe(), impl.Bath{Liters: 500, Heat: 80, Yarn: 0, Stuffs: []int{0, 50000}}, 0},
		{recipeOf(1), bathOf(0, 1), 1000},
		{recipeOf(1000), bathOf(0, 1), 1},
		{recipeOf(999), bathOf(0, 1), 1},
		{recipeOf(333), bathOf(0, 1), 3},
		{recipeOf(334), bathOf(0, 1), 2},
		{recipeOf(1000), bathOf(0, 24999), 24999},
		{recipeOf(1000), bathOf(0, 25001), 25000},
	} {
		if most, ok := impl.MostYarn(c.recipe, c.b); !ok || most != c.want {
			t.Errorf("MostYarn(%v, %v) = %d, %v", c.recipe, c.b, most, ok)
		}
	}
	for heat := range 101 {
		b := impl.Bath{Liters: 40, Heat: heat, Yarn: 1500, Stuffs: []int{400, 800}}
		want := 0
		if heat >= 60 && heat <= 95 {
			want = 1600
		}
		if most, ok := impl.MostYarn(dyeRecipe(), b); ok != (want > 0) || most != want {
			t.Errorf("MostYarn(%v) = %d, %v", b, most, ok)
		}
	}
}

// A Bath is ready for the most yarn and for no gram more, whatever yarn lies in it.
func TestMostYarnIsReadyAndNoGramMore(t *testing.T) {
	for i, recipe := range mixedRecipes() {
		for _, b := range mixedBaths(recipe, i) {
			most, ok := impl.MostYarn(recipe, b)
			if b.Heat < 60 || b.Heat > 95 {
				if ok || most != 0 {
					t.Errorf("MostYarn(%v, %v) = %d, %v", recipe, b, most, ok)
				}
				continue
			}
			if !ok || !isReadyByRules(recipe, b, most) || isReadyByRules(recipe, b, most+1) {
				t.Errorf("MostYarn(%v, %v) = %d, %v", recipe, b, most, ok)
			}
			other := cloneBath(b)
			other.Yarn = most
			if ready, ok := impl.IsReady(recipe, other); !ok || !ready {
				t.Errorf("IsReady(%v, %v) = %v, %v", recipe, other, ready, ok)
			}
			other.Yarn++
			if ready, ok := impl.IsReady(recipe, other); !ok || ready {
				t.Errorf("IsReady(%v, %v) = %v, %v", recipe, other, ready, ok)
			}
			if again, ok := impl.MostYarn(recipe, other); !ok || again != most {
				t.Errorf("MostYarn(%v, %v) = %d, %v, not %d", recipe, other, again, ok, most)
			}
		}
	}
}

func TestDyeYarn(t *testing.T) {
	for _, c := range []struct {
		recipe  []impl.DyePart
		b, want impl.Bath
		ready   bool
	}{
		{dyeRecipe(), impl.Bath{Liters: 40, Heat: 80, Yarn: 1500, Stuffs: []int{400, 800}}, impl.Bath{Liters: 40, Heat: 80, Stuffs: []int{100, 50}}, true},
		{dyeRecipe(), impl.Bath{Liters: 40, Heat: 60, Yarn: 1500, Stuffs: []int{300, 750}}, impl.Bath{Liters: 40, Heat: 60, Stuffs: []int{0, 0}}, true},
		{dyeRecipe(), impl.Bath{Liters: 20, Heat: 95, Yarn: 1, Stuffs: []int{1, 1}}, impl.Bath{Liters: 20, Heat: 95, Stuffs: []int{0, 0}}, true},
		{dyeRecipe(), impl.Bath{Liters: 20, Heat: 95, Yarn: 1, Stuffs: []int{2, 5}}, impl.Bath{Liters: 20, Heat: 95, Stuffs: []int{1, 4}}, true},
		{dyeRecipe(), impl.Bath{Liters: 1, Heat: 80, Yarn: 0, Stuffs: []int{3, 0}}, impl.Bath{Liters: 1, Heat: 80, Stuffs: []int{3, 0}}, true},
		{dyeRecipe(), bathOf(25000, 50000, 12500), bathOf(0, 45000, 0), true},
		{recipeOf(1, 1000), bathOf(24999, 25, 50000), bathOf(0, 0, 25001), true},
		{recipeOf(1, 1000), bathOf(24999, 24, 50000), impl.Bath{}, false},
		{dyeRecipe(), impl.Bath{Liters: 40, Heat: 80, Yarn: 1500, Stuffs: []int{299, 800}}, impl.Bath{}, false},
		{dyeRecipe(), impl.Bath{Liters: 40, Heat: 80, Yarn: 1500, Stuffs: []int{400, 749}}, impl.Bath{}, false},
		{dyeRecipe(), impl.Bath{Liters: 39, Heat: 80, Yarn: 1500, Stuffs: []int{400, 800}}, impl.Bath{}, false},
		{dyeRecipe(), impl.Bath{Liters: 40, Heat: 59, Yarn: 1500, Stuffs: []int{400, 800}}, impl.Bath{}, false},
		{dyeRecipe(), impl.Bath{Liters: 40, Heat: 96, Yarn: 1500, Stuffs: []int{400, 800}}, impl.Bath{}, false},
		{dyeRecipe(), impl.Bath{Liters: 40, Heat: 59, Yarn: 0, Stuffs: []int{400, 800}}, impl.Bath{}, false},
	} {
		if left, ok := impl.DyeYarn(c.recipe, c.b); ok != c.ready || !sameBath(left, c.want) {
			t.Errorf("DyeYarn(%v, %v) = %v, %v", c.recipe, c.b, left, ok)
		}
	}
}

// Promise 7: what is used and what is left of a dyed Bath are what was in it.
func TestUsedAndLeftAreWhatWasInTheBath(t *testing.T) {
	dyed := 0
	for i, recipe := range mixedRecipes() {
		for _, b := range mixedBaths(recipe, i) {
			given := cloneBath(b)
			left, ok := impl.DyeYarn(recipe, b)
			if !sameBath(b, given) {
				t.Fatalf("%v has become %v", given, b)
			}
			if !isReadyByRules(recipe, b, b.Yarn) {
				if ok || !isNoBath(left) {
					t.Errorf("DyeYarn(%v, %v) = %v, %v", recipe, b, left, ok)
				}
				continue
			}
			dyed++
			used, fine := impl.NeedsFor(recipe, b.Yarn)
			if !ok || !fine || len(left.Stuffs) != len(b.Stuffs) || len(used) != len(b.Stuffs) {
				t.Fatalf("DyeYarn(%v, %v) = %v, %v, and %v, %v is used", recipe, b, left, ok, used, fine)
			}
			for j := range used {
				if used[j]+left.Stuffs[j] != b.Stuffs[j] || used[j] != gramsFor(recipe[j].PerMil, b.Yarn) {
					t.Errorf("of %v, %v is used and %v is left", b, used, left)
				}
			}
			if left.Yarn != 0 || left.Liters != b.Liters || left.Heat != b.Heat || !impl.IsBath(recipe, left) {
				t.Errorf("DyeYarn(%v, %v) = %v", recipe, b, left)
			}
		}
	}
	if dyed < 100 {
		t.Error("only", dyed, "Baths are ready")
	}
}

// Whatever is put into one Bath in turn and dyed with it, what is used and what is left are what was put in.
func TestStuffsOfManyDyeingsAreConserved(t *testing.T) {
	for i, recipe := range mixedRecipes() {
		next := dyeNumbers(i)
		bath := bathOf(0, make([]int, len(recipe))...)
		put, used := make([]int, len(recipe)), make([]int, len(recipe))
		dyed := 0
		for range 200 {
			at, grams := next(len(recipe)), next(5000)
			fuller, ok := impl.AddStuff(recipe, bath, recipe[at].Stuff, grams)
			if ok != (bath.Stuffs[at]+grams <= 50000) {
				t.Fatalf("AddStuff(%v, %v, %s, %d) = %v, %v", recipe, bath, recipe[at].Stuff, grams, fuller, ok)
			}
			if ok {
				bath = fuller
				put[at] += grams
			}
			bath.Yarn = next(3000)
			left, ok := impl.DyeYarn(recipe, bath)
			if !ok {
				continue
			}
			dyed++
			needs, _ := impl.NeedsFor(recipe, bath.Yarn)
			for j, need := range needs {
				used[j] += need
			}
			bath = left
		}
		for j := range recipe {
			if used[j]+bath.Stuffs[j] != put[j] {
				t.Errorf("of %v of %v, %v are used and %v are left", put, recipe, used, bath.Stuffs)
			}
		}
		if dyed == 0 {
			t.Errorf("nothing is dyed by %v", recipe)
		}
	}
}

func TestAddStuff(t *testing.T) {
	b := impl.Bath{Liters: 3, Heat: 100, Yarn: 50000, Stuffs: []int{400, 800}}
	for _, c := range []struct {
		stuff string
		grams int
		want  []int
	}{
		{"alum", 100, []int{500, 800}}, {"madder", 100, []int{400, 900}}, {"alum", 0, []int{400, 800}}, {"madder", 0, []int{400, 800}}, {"madder", 1, []int{400, 801}},
		// Up to the greatest amount, and a gram more.
		{"alum", 49600, []int{50000, 800}}, {"alum", 49601, nil}, {"madder", 49200, []int{400, 50000}}, {"madder", 49201, nil}, {"alum", 50000, nil},
		// Other stuffs.
		{"weld", 100, nil}, {"weld", 0, nil}, {"", 100, nil}, {"", 0, nil}, {"Alum", 100, nil}, {"alumx", 100, nil}, {"alu", 100, nil}, {"alum ", 100, nil}, {"alum:200", 100, nil},
		{"aluma", 0, nil}, {"n", 0, nil}, {strings.Repeat("alum", 3000), 100, nil}, {"\xff", 0, nil},
	} {
		fuller, ok := impl.AddStuff(dyeRecipe(), b, c.stuff, c.grams)
		if c.want == nil {
			if ok || !isNoBath(fuller) {
				t.Errorf("AddStuff(%v, %.20q, %d) = %v, %v", b, c.stuff, c.grams, fuller, ok)
			}
			continue
		}
		if want := (impl.Bath{Liters: 3, Heat: 100, Yarn: 50000, Stuffs: c.want}); !ok || !sameBath(fuller, want) {
			t.Errorf("AddStuff(%v, %q, %d) = %v, %v", b, c.stuff, c.grams, fuller, ok)
		}
	}
	for _, grams := range []int{math.MinInt, -1 << 32, -400, -1, 50001, 50002, 1 << 32, 1<<32 + 1, math.MaxInt - 399, math.MaxInt} {
		for _, stuff := range []string{"alum", "madder", "weld"} {
			if fuller, ok := impl.AddStuff(dyeRecipe(), b, stuff, grams); ok || !isNoBath(fuller) {
				t.Errorf("AddStuff(%v, %q, %d) = %v, %v", b, stuff, grams, fuller, ok)
			}
		}
	}
	empty := impl.Bath{Liters: 1, Stuffs: []int{0, 0}}
	if fuller, ok := impl.AddStuff(dyeRecipe(), empty, "madder", 50000); !ok || !slices.Equal(fuller.Stuffs, []int{0, 50000}) {
		t.Errorf("AddStuff(%v, madder, 50000) = %v, %v", empty, fuller, ok)
	}
}

// What is added to a stuff changes no other one, and can be added in two parts.
func TestAddStuffToEachStuff(t *testing.T) {
	for i, recipe := range mixedRecipes() {
		for _, b := range mixedBaths(recipe, i) {
			given := cloneBath(b)
			for at, part := range recipe {
				for _, grams := range []int{0, 1, 29, 50000 - b.Stuffs[at], 50001 - b.Stuffs[at], 50000} {
					want := cloneBath(b)
					want.Stuffs[at] += grams
					fuller, ok := impl.AddStuff(recipe, b, part.Stuff, grams)
					if fits := want.Stuffs[at] <= 50000 && grams <= 50000; ok != fits || fits && !sameBath(fuller, want) || !fits && !isNoBath(fuller) {
						t.Fatalf("AddStuff(%v, %v, %s, %d) = %v, %v", recipe, b, part.Stuff, grams, fuller, ok)
					}
					first, _ := impl.AddStuff(recipe, b, part.Stuff, grams/3)
					if second, fine := impl.AddStuff(recipe, first, part.Stuff, grams-grams/3); fine != ok || !sameBath(second, fuller) {
						t.Fatalf("%d of %s added to %v in two parts: %v, %v, not %v, %v", grams, part.Stuff, b, second, fine, fuller, ok)
					}
				}
			}
			if !sameBath(b, given) {
				t.Errorf("%v has become %v", given, b)
			}
		}
	}
}

func TestDepthLeft(t *testing.T) {
	for _, c := range []struct {
		recipe []impl.DyePart
		b      impl.Bath
		yarn   int
		want   int
	}{
		{dyeRecipe(), impl.Bath{Liters: 40, Heat: 80, Yarn: 1500, Stuffs: []int{400, 800}}, 2000, 80},
		{dyeRecipe(), impl.Bath{Liters: 40, Heat: 80, Yarn: 1500, Stuffs: []int{300, 800}}, 2000, 75},
		{dyeRecipe(), impl.Bath{Liters: 40, Heat: 80, Yarn: 1500, Stuffs: []int{400, 1000}}, 2000, 100},
		{dyeRecipe(), impl.Bath{Liters: 40, Heat: 80, Yarn: 1500, Stuffs: []int{400, 999}}, 2000, 99},
		{dyeRecipe(), impl.Bath{Liters: 40, Heat: 80, Yarn: 1500, Stuffs: []int{399, 1000}}, 2000, 99},
		{dyeRecipe(), bathOf(0, 50000, 50000), 1, 100},
		{dyeRecipe(), bathOf(0, 50000, 50000), 50000, 100},
		{dyeRecipe(), bathOf(0, 1, 1), 1, 100},
		{dyeRecipe(), bathOf(0, 0, 1), 1, 0},
		{dyeRecipe(), bathOf(0, 50000, 0), 1, 0},
		{dyeRecipe(), bathOf(0, 1, 1), 50000, 0},
		// Half of what one gram of yarn is asked for is less than a gram, but counts.
		{recipeOf(1000), bathOf(0, 1), 2, 50}, {recipeOf(1000), bathOf(0, 1), 3, 33}, {recipeOf(1000), bathOf(0, 2), 3, 66},
		{recipeOf(1000), bathOf(0, 1), 100, 1}, {recipeOf(1000), bathOf(0, 1), 101, 0},
		{recipeOf(1000), bathOf(0, 50000), 50000, 100}, {recipeOf(1000), bathOf(0, 49999), 50000, 99},
		{recipeOf(1), bathOf(0, 50), 50000, 100}, {recipeOf(1), bathOf(0, 49), 50000, 98}, {recipeOf(1), bathOf(0, 0), 50000, 0},
		// Neither the Heat nor the water nor the yarn in the Bath matters.
		{dyeRecipe(), impl.Bath{Liters: 1, Heat: 0, Yarn: 50000, Stuffs: []int{400, 800}}, 2000, 80},
		{dyeRecipe(), impl.Bath{Liters: 1, Heat: 100, Yarn: 0, Stuffs: []int{400, 800}}, 2000, 80},
	} {
		if depth, ok := impl.DepthLeft(c.recipe, c.b, c.yarn); !ok || depth != c.want {
			t.Errorf("DepthLeft(%v, %v, %d) = %d, %v", c.recipe, c.b, c.yarn, depth, ok)
		}
	}
	for _, yarn := range []int{math.MinInt, -1 << 32, -2000, -1, 0, 50001, 50002, 1 << 32, 1<<32 + 1, math.MaxInt} {
		if depth, ok := impl.DepthLeft(dyeRecipe(), bathOf(1500, 400, 800), yarn); ok || depth != 0 {
			t.Errorf("DepthLeft(.., %d) = %d, %v", yarn, depth, ok)
		}
	}
}

// The depth is the greatest percentage of the recipe for which no stuff is missing.
func TestDepthLeftByPercents(t *testing.T) {
	between := 0
	for i, recipe := range mixedRecipes() {
		for _, b := range mixedBaths(recipe, i) {
			for _, yarn := range []int{1, 2, 3, 999, 1000, 1001, 1500, 25000, 49999, 50000, max(b.Yarn, 1)} {
				want := 100
				for j, part := range recipe {
					for b.Stuffs[j]*100000 < want*part.PerMil*yarn {
						want--
					}
				}
				depth, ok := impl.DepthLeft(recipe, b, yarn)
				if !ok || depth != want {
					t.Fatalf("DepthLeft(%v, %v, %d) = %d, %v, not %d", recipe, b, yarn, depth, ok, want)
				}
				if depth > 0 && depth < 100 {
					between++
				}
			}
		}
	}
	if between < 100 {
		t.Error("only", between, "depths are between none and all")
	}
}

func TestMixRecipes(t *testing.T) {
	part := func(stuff string, perMil int) impl.DyePart { return impl.DyePart{Stuff: stuff, PerMil: perMil} }
	madder := []impl.DyePart{part("alum", 200), part("madder", 500)}
	weld := []impl.DyePart{part("weld", 100)}
	both := []impl.DyePart{part("alum", 100), part("weld", 301)}
	six, others := recipeOf(1, 2, 3, 4, 5, 6), []impl.DyePart{part("madder", 7), part("walnut", 8), part("weld", 9), part("z", 10), part("zz", 11), part("zzz", 12)}
	for _, c := range []struct {
		a, b  []impl.DyePart
		share int
		want  []impl.DyePart
	}{
		{madder, weld, 50, []impl.DyePart{part("alum", 100), part("madder", 250), part("weld", 50)}},
		{weld, madder, 50, []impl.DyePart{part("alum", 100), part("madder", 250), part("weld", 50)}},
		// Stuffs of one recipe alone are left out where the share of their recipe is nothing, and only there.
		{madder, weld, 0, madder}, {madder, weld, 100, weld},
		{madder, weld, 1, []impl.DyePart{part("alum", 198), part("madder", 495), part("weld", 1)}},
		{madder, weld, 99, []impl.DyePart{part("alum", 2), part("madder", 5), part("weld", 99)}},
		{recipeOf(1), weld, 99, []impl.DyePart{part("a", 1), part("weld", 99)}},
		{recipeOf(1), weld, 1, []impl.DyePart{part("a", 1), part("weld", 1)}},
		{recipeOf(1), weld, 100, weld}, {weld, recipeOf(1), 100, recipeOf(1)}, {weld, recipeOf(1), 0, weld},
		// Stuffs of both.
		{madder, both, 50, []impl.DyePart{part("alum", 150), part("madder", 250), part("weld", 151)}},
		{madder, both, 25, []impl.DyePart{part("alum", 175), part("madder", 375), part("weld", 76)}},
		{madder, both, 0, madder}, {madder, both, 100, both},
		{madder, madder, 37, madder}, {weld, weld, 0, weld}, {weld, weld, 100, weld},
		// The sum is rounded up, not each summand.
		{recipeOf(1), recipeOf(1), 50, recipeOf(1)}, {recipeOf(1), recipeOf(2), 50, recipeOf(2)}, {recipeOf(1), recipeOf(2), 1, recipeOf(2)},
		{recipeOf(2), recipeOf(1), 99, recipeOf(2)}, {recipeOf(3), recipeOf(5), 50, recipeOf(4)}, {recipeOf(333), recipeOf(334), 50, recipeOf(334)},
		{recipeOf(1000), recipeOf(1000), 33, recipeOf(1000)}, {recipeOf(1000), recipeOf(999), 99, recipeOf(1000)}, {recipeOf(1000), recipeOf(1), 50, recipeOf(501)},
		// As many stuffs as a recipe may have, and more.
		{six, recipeOf(6, 5, 4, 3, 2, 1), 50, recipeOf(4, 4, 4, 4, 4, 4)},
		{six[:5], others[:1], 50, []impl.DyePart{part("a", 1), part("aa", 1), part("alum", 2), part("alumx", 2), part("indigo", 3), part("madder", 4)}},
		{six[:3], others[:3], 50, []impl.DyePart{part("a", 1), part("aa", 1), part("alum", 2), part("madder", 4), part("walnut", 4), part("weld", 5)}},
		{six, others, 0, six}, {six, others, 100, others}, {six, others[:1], 0, six}, {six, others[:1], 100, others[:1]}, {six[:1], others, 0, six[:1]},
		{six, others, 50, nil}, {six, others, 1, nil}, {six, others, 99, nil}, {six, others[:1], 1, nil}, {six[:1], others, 99, nil}, {six[:4], others[:3], 50, nil},
	} {
		if mixed, ok := impl.MixRecipes(c.a, c.b, c.share); ok != (c.want != nil) || !slices.Equal(mixed, c.want) {
			t.Errorf("MixRecipes(%v, %v, %d) = %v, %v", c.a, c.b, c.share, mixed, ok)
		}
	}
}

// mixByHundredths gives each stuff, in ascending order, the smallest PerMil that is not less than what the recipes ask for.
func mixByHundredths(a, b []impl.DyePart, share int) []impl.DyePart {
	sums := map[string]int{}
	for _, part := range a {
		sums[part.Stuff] += part.PerMil * (100 - share)
	}
	for _, part := range b {
		sums[part.Stuff] += part.PerMil * share
	}
	var mixed []impl.DyePart
	for stuff, sum := range sums {
		perMil := sum / 100
		if perMil*100 < sum {
			perMil++
		}
		if perMil > 0 {
			mixed = append(mixed, impl.DyePart{Stuff: stuff, PerMil: perMil})
		}
	}
	slices.SortFunc(mixed, func(x, y impl.DyePart) int { return strings.Compare(x.Stuff, y.Stuff) })
	return mixed
}

// All pairs of recipes with each share; which of the two is named first does not matter if the share is turned round.
func TestMixRecipesByHundredths(t *testing.T) {
	recipes := mixedRecipes()
	failed, done := 0, 0
	for i, a := range recipes {
		for j, b := range recipes {
			for _, share := range []int{0, 1, 2, 33, 49, 50, 51, 99, 100, (i*7 + j) % 101} {
				want := mixByHundredths(a, b, share)
				if len(want) > impl.MaxParts {
					want = nil
					failed++
				} else {
					done++
				}
				givenA, givenB := slices.Clone(a), slices.Clone(b)
				mixed, ok := impl.MixRecipes(a, b, share)
				if ok != (want != nil) || !slices.Equal(mixed, want) {
					t.Fatalf("MixRecipes(%v, %v, %d) = %v, %v, not %v", a, b, share, mixed, ok, want)
				}
				if ok && !impl.IsRecipe(mixed) {
					t.Fatalf("MixRecipes(%v, %v, %d) = %v, which is no recipe", a, b, share, mixed)
				}
				if back, fine := impl.MixRecipes(b, a, 100-share); fine != ok || !slices.Equal(back, mixed) {
					t.Fatalf("MixRecipes(%v, %v, %d) = %v, %v, not %v, %v", b, a, 100-share, back, fine, mixed, ok)
				}
				if !slices.Equal(a, givenA) || !slices.Equal(b, givenB) {
					t.Fatalf("%v and %v have become %v and %v", givenA, givenB, a, b)
				}
			}
		}
	}
	if failed < 100 || done < 100 {
		t.Error("mixed", done, "and not", failed)
	}
}

// Each PerMil, with each share of another stuff.
func TestMixRecipesWithEachShare(t *testing.T) {
	for perMil := 1; perMil <= 1000; perMil += 3 {
		for share := range 101 {
			a, b := recipeOf(perMil, 1001-perMil), []impl.DyePart{{Stuff: "aa", PerMil: perMil}, {Stuff: "z", PerMil: perMil}}
			if mixed, ok := impl.MixRecipes(a, b, share); !ok || !slices.Equal(mixed, mixByHundredths(a, b, share)) {
				t.Fatalf("MixRecipes(%v, %v, %d) = %v, %v", a, b, share, mixed, ok)
			}
		}
	}
}

func TestMixRecipesRefuses(t *testing.T) {
	for _, share := range []int{math.MinInt, -1 << 32, -50, -1, 101, 150, 1 << 32, 1<<32 + 50, math.MaxInt} {
		for _, b := range [][]impl.DyePart{dyeRecipe(), recipeOf(1)} {
			if mixed, ok := impl.MixRecipes(dyeRecipe(), b, share); ok || len(mixed) != 0 {
				t.Errorf("MixRecipes(.., %v, %d) = %v, %v", b, share, mixed, ok)
			}
		}
	}
	// A recipe whose share is nothing must be valid, too.
	for _, recipe := range invalidRecipes() {
		for _, share := range []int{0, 50, 100} {
			first, okFirst := impl.MixRecipes(recipe, dyeRecipe(), share)
			second, okSecond := impl.MixRecipes(dyeRecipe(), recipe, share)
			both, okBoth := impl.MixRecipes(recipe, recipe, share)
			if okFirst || okSecond || okBoth || len(first)+len(second)+len(both) != 0 {
				t.Errorf("%v, mixed with a share of %d: %v, %v, %v", recipe, share, first, second, both)
			}
		}
	}
}

func TestRecipeText(t *testing.T) {
	for _, c := range []struct {
		recipe []impl.DyePart
		want   string
	}{
		{dyeRecipe(), "alum:200 madder:500"},
		{[]impl.DyePart{{Stuff: "weld", PerMil: 100}}, "weld:100"},
		{recipeOf(1), "a:1"},
		{recipeOf(1000, 1, 10, 100, 999, 7), "a:1000 aa:1 alum:10 alumx:100 indigo:999 lac:7"},
		{[]impl.DyePart{{Stuff: "abcdefghij", PerMil: 1000}, {Stuff: "zzzzzzzzzz", PerMil: 1000}}, "abcdefghij:1000 zzzzzzzzzz:1000"},
	} {
		if text, ok := impl.RecipeText(c.recipe); !ok || text != c.want {
			t.Errorf("RecipeText(%v) = %q, %v", c.recipe, text, ok)
		}
	}
	for _, recipe := range mixedRecipes() {
		want := ""
		for _, part := range recipe {
			want += fmt.Sprintf(" %s:%d", part.Stuff, part.PerMil)
		}
		if text, ok := impl.RecipeText(recipe); !ok || text != want[1:] {
			t.Errorf("RecipeText(%v) = %q, %v", recipe, text, ok)
		}
	}
	for _, recipe := range invalidRecipes() {
		if text, ok := impl.RecipeText(recipe); ok || text != "" {
			t.Errorf("RecipeText(%v) = %q, %v", recipe, text, ok)
		}
	}
}

// checkBathRefused calls each function that takes a Bath, and checks that all fail.
func checkBathRefused(t *testing.T, recipe []impl.DyePart, b impl.Bath, stuff string) {
	t.Helper()
	if ready, ok := impl.IsReady(recipe, b); ok || ready {
		t.Errorf("IsReady(%v, %v) = %v, %v", recipe, b, ready, ok)
	}
	if most, ok := impl.MostYarn(recipe, b); ok || most != 0 {
		t.Errorf("MostYarn(%v, %v) = %d, %v", recipe, b, most, ok)
	}
	if left, ok := impl.DyeYarn(recipe, b); ok || !isNoBath(left) {
		t.Errorf("DyeYarn(%v, %v) = %v, %v", recipe, b, left, ok)
	}
	for _, grams := range []int{0, 1, 100, 50000} {
		if fuller, ok := impl.AddStuff(recipe, b, stuff, grams); ok || !isNoBath(fuller) {
			t.Errorf("AddStuff(%v, %v, %.20q, %d) = %v, %v", recipe, b, stuff, grams, fuller, ok)
		}
	}
	for _, yarn := range []int{1, 1000, 50000} {
		if depth, ok := impl.DepthLeft(recipe, b, yarn); ok || depth != 0 {
			t.Errorf("DepthLeft(%v, %v, %d) = %d, %v", recipe, b, yarn, depth, ok)
		}
	}
}

func TestDyeFunctionsRefuseInvalidBaths(t *testing.T) {
	for _, b := range invalidBaths() {
		checkBathRefused(t, dyeRecipe(), b, "alum")
		checkBathRefused(t, dyeRecipe(), b, "madder")
	}
	for _, recipe := range invalidRecipes() {
		stuff := "alum"
		if len(recipe) > 0 {
			stuff = recipe[0].Stuff
		}
		checkBathRefused(t, recipe, bathOf(0, stuffsLike(recipe)...), stuff)
		checkBathRefused(t, recipe, bathOf(0, 400, 800), "alum")
	}
	for _, recipe := range mixedRecipes() {
		b := fullBath(recipe, 0)
		checkBathRefused(t, recipe, bathOf(0, b.Stuffs[1:]...), recipe[0].Stuff)
		checkBathRefused(t, recipe, bathOf(0, append(b.Stuffs, 0)...), recipe[0].Stuff)
	}
}

// dyeResults calls each function that returns grams of stuffs, so that it succeeds, for a hot Bath without yarn that is not full.
func dyeResults(recipe []impl.DyePart, b impl.Bath) [][]int {
	none, _ := impl.NeedsFor(recipe, 0)
	needs, _ := impl.NeedsFor(recipe, 5000)
	left, _ := impl.DyeYarn(recipe, b)
	kept, _ := impl.AddStuff(recipe, b, recipe[0].Stuff, 0)
	fuller, _ := impl.AddStuff(recipe, b, recipe[len(recipe)-1].Stuff, 1)
	return [][]int{none, needs, left.Stuffs, kept.Stuffs, fuller.Stuffs}
}

// Whatever is written to one result, over all of its memory, neither another one nor an argument changes.
func TestDyeResultsAreSeparate(t *testing.T) {
	for i, recipe := range mixedRecipes() {
		b := bathOf(0, append(stuffsLike(recipe), 77, 78)[:len(recipe)]...)
		givenRecipe, givenBath := slices.Clone(recipe), cloneBath(b)
		results := append(dyeResults(recipe, b), dyeResults(recipe, b)...)
		for j, stuffs := range results {
			if len(stuffs) != len(recipe) {
				t.Fatalf("result %d of %v is %v", j, recipe, stuffs)
			}
		}
		checkSeparate(t, results, -1)
		same, _ := impl.MixRecipes(recipe, recipe, i)
		first, _ := impl.MixRecipes(recipe, recipeOf(1), 0)
		second, _ := impl.MixRecipes(recipeOf(1), recipe, 100)
		mixes := [][]impl.DyePart{same, first, second}
		for j, mixed := range mixes {
			if !slices.Equal(mixed, recipe) {
				t.Fatalf("mix %d of %v is %v", j, recipe, mixed)
			}
		}
		checkSeparate(t, mixes, impl.DyePart{})
		if !slices.Equal(recipe, givenRecipe) || !sameBath(b, givenBath) || !slices.Equal(b.Stuffs[:len(recipe)+2][len(recipe):], []int{77, 78}) {
			t.Errorf("%v and %v have become %v and %v", givenRecipe, givenBath, recipe, b)
		}
	}
}

func TestDyeResultsShareNoText(t *testing.T) {
	recipe := []impl.DyePart{{Stuff: strings.Repeat("a", 10), PerMil: 5}}
	for share := range 101 {
		mixed, ok := impl.MixRecipes(recipe, recipe, share)
		if !ok || !slices.Equal(mixed, recipe) {
			t.Fatal("mixed", mixed, ok)
		}
		if unsafe.StringData(mixed[0].Stuff) == unsafe.StringData(recipe[0].Stuff) {
			t.Error("a mixed recipe shares a stuff of its argument")
		}
	}
}

// Each function returns for odd numbers and odd recipes and Baths, changes none, and does the same at each call.
func TestDyeFunctionsAreTotal(t *testing.T) {
	numbers := append(oddNumbers(), 20, 60, 95, 100, 101, 500, 1000, 1001, 50000, 50001)
	for _, recipe := range append(invalidRecipes(), dyeRecipe(), recipeOf(1), recipeOf(1000, 1, 1, 1, 1, 1)) {
		given := slices.Clone(recipe)
		for i, n := range numbers {
			b := impl.Bath{Liters: n, Heat: numbers[(i*7+3)%len(numbers)], Yarn: n, Stuffs: []int{n, n}}
			if i%2 == 0 {
				b = impl.Bath{Liters: 500, Heat: 80, Yarn: n, Stuffs: slices.Repeat([]int{numbers[(i*11+5)%len(numbers)]}, len(recipe))}
			}
			keep := cloneBath(b)
			if first, second := dyeAnswers(recipe, b, n), dyeAnswers(recipe, b, n); first != second {
				t.Errorf("with %v, %v and %d: %s, and then %s", recipe, b, n, first, second)
			}
			if !sameBath(b, keep) {
				t.Errorf("%v has become %v", keep, b)
			}
		}
		if !slices.Equal(recipe, given) {
			t.Errorf("%v has become %v", given, recipe)
		}
	}
}

// dyeAnswers calls each function of the chapter with one number, and returns all results as a text.
func dyeAnswers(recipe []impl.DyePart, b impl.Bath, n int) string {
	needs, needsOk := impl.NeedsFor(recipe, n)
	ready, readyOk := impl.IsReady(recipe, b)
	most, mostOk := impl.MostYarn(recipe, b)
	left, leftOk := impl.DyeYarn(recipe, b)
	fuller, fullerOk := impl.AddStuff(recipe, b, "alum", n)
	depth, depthOk := impl.DepthLeft(recipe, b, n)
	mixed, mixedOk := impl.MixRecipes(recipe, dyeRecipe(), n)
	text, textOk := impl.RecipeText(recipe)
	return fmt.Sprint(impl.IsRecipe(recipe), impl.IsBath(recipe, b), needs, needsOk, ready, readyOk, most, mostOk, left, leftOk, fuller, fullerOk,
		depth, depthOk, mixed, mixedOk, text, textOk)
}

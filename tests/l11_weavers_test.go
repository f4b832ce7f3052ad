package tests

import (
	"fmt"
	"math"
	"slices"
	"strings"
	"testing"
	"unsafe"

	"loop.example/g01023/impl"
)

// weaverNames are more words than a list has Weavers; the Weavers of a list may have the same Name.
var weaverNames = []string{"ayse", "dilek", "omid", "a", "zzzzzzzzzz", "ayse", "z", "leyla", "reza", "nur", "ipek"}

// weaverAt returns a Weaver with a Name that depends on the Id.
func weaverAt(id, skills, speed, loom int) impl.Weaver {
	return impl.Weaver{Id: id, Name: weaverNames[id%len(weaverNames)], Skills: skills, Speed: speed, Loom: loom}
}

// weaverList returns a list of Weavers with Ids from 1 on, given as triples of Skills, a Speed and a Loom.
func weaverList(weavers ...int) []impl.Weaver {
	var list []impl.Weaver
	for i := 0; i < len(weavers); i += 3 {
		list = append(list, weaverAt(i/3+1, weavers[i], weavers[i+1], weavers[i+2]))
	}
	return list
}

// skilledList returns a list of Weavers at no Loom, with Ids from 1 on and these Skills.
func skilledList(skills ...int) []impl.Weaver {
	var list []impl.Weaver
	for i, n := range skills {
		list = append(list, weaverAt(i+1, n, 5000, 0))
	}
	return list
}

// seatedList returns a list of Weavers with SkillKnot, with Ids from 1 on and at these Looms.
func seatedList(looms ...int) []impl.Weaver {
	var list []impl.Weaver
	for i, loom := range looms {
		list = append(list, weaverAt(i+1, 1, 5000, loom))
	}
	return list
}

// mixedWeavers returns lists of all lengths; their Speeds and Looms are often equal, and their Ids reach 99.
func mixedWeavers() [][]impl.Weaver {
	next := dyeNumbers(11)
	lists := [][]impl.Weaver{nil, {}}
	for length := 1; length <= 8; length++ {
		for seed := range 40 {
			skills := [][]int{{1, 2, 4, 8}, {1, 3, 5, 6, 9, 12}, {1, 2, 3, 4, 5, 6, 7, 8, 9, 10, 11, 12, 13, 14, 15}, {2, 4, 8, 14}, {1, 2}}[seed%5]
			looms := []int{0, 99, 1, 0, 7, 42}[:seed%6+1]
			var list []impl.Weaver
			for i := range length {
				loom := looms[next(len(looms))]
				if loom > 0 && sittersAt(list, loom) == 3 {
					loom = 0
				}
				speed := []int{12000, 100, 101, 5000, 6000}[next(seed%4+2)]
				list = append(list, weaverAt((i+1)*99/length-next(9), skills[next(len(skills))], speed, loom))
			}
			lists = append(lists, list)
		}
	}
	return lists
}

// sittersAt counts the Weavers at a Loom.
func sittersAt(list []impl.Weaver, loom int) int {
	count := 0
	for _, w := range list {
		if w.Loom == loom {
			count++
		}
	}
	return count
}

// isWeaverByRules tells from the rules of the document whether a Weaver, whose Name is valid, is.
func isWeaverByRules(w impl.Weaver) bool {
	return w.Id >= 1 && w.Id <= 99 && w.Skills >= 1 && w.Skills <= 15 && w.Speed >= 100 && w.Speed <= 12000 && w.Loom >= 0 && w.Loom <= 99
}

// areSeatsByRules tells from the rules of the document whether the Weavers of a list may sit where they do.
func areSeatsByRules(list []impl.Weaver) bool {
	for loom := 1; loom <= 99; loom++ {
		if sittersAt(list, loom) > 3 {
			return false
		}
	}
	return true
}

// weaverNumbers returns numbers about the limits of the fields of a Weaver, and of int.
func weaverNumbers() []int {
	return append(oddNumbers(), 4, 14, 15, 16, 17, 98, 99, 100, 101, 11999, 12000, 12001, 1<<32+1, 1<<32+100)
}

// invalidWeavers returns Weavers of which one field is not valid.
func invalidWeavers() []impl.Weaver {
	weavers := []impl.Weaver{{}, {Id: 1}, {Id: 1, Name: "ayse", Skills: 1}, {Id: 1, Name: "ayse", Speed: 100}, {Id: 1, Skills: 1, Speed: 100}, {Name: "ayse", Skills: 1, Speed: 100}}
	for _, n := range append(weaverNumbers(), -15, -99, -100, -12000) {
		for _, w := range []impl.Weaver{weaverAt(1, n, 5000, 3), weaverAt(1, 1, n, 3), weaverAt(1, 1, 5000, n), {Id: n, Name: "ayse", Skills: 15, Speed: 5000}} {
			if !isWeaverByRules(w) {
				weavers = append(weavers, w)
			}
		}
	}
	for _, name := range invalidNames() {
		weavers = append(weavers, impl.Weaver{Id: 1, Name: name, Skills: 15, Speed: 5000})
	}
	return weavers
}

// invalidWeaverLists returns lists that are not valid; most of them hold Weavers with all skills at the Loom 3 and at none.
func invalidWeaverLists() [][]impl.Weaver {
	valid := weaverList(15, 5000, 3, 15, 6000, 0, 15, 7000, 3)
	a, b, c := valid[0], valid[1], valid[2]
	lists := [][]impl.Weaver{
		{b, a}, {a, a}, {a, c, b}, {a, b, b}, {c, b, a}, {b, a, c}, {a, b, c, a},
		seatedList(3, 3, 3, 3), seatedList(0, 3, 3, 3, 3), seatedList(3, 0, 3, 9, 3, 0, 3), seatedList(3, 1, 1, 1, 1), seatedList(99, 99, 99, 99, 0), seatedList(3, 3, 3, 3, 3, 3, 3, 3),
		skilledList(15, 15, 15, 15, 15, 15, 15, 15, 15), seatedList(1, 1, 1, 2, 2, 2, 3, 3, 3), slices.Repeat([]impl.Weaver{a}, 1000),
	}
	var long []impl.Weaver
	for id := 1; id <= 99; id++ {
		long = append(long, weaverAt(id, 15, 5000, 0))
	}
	lists = append(lists, long)
	for _, w := range invalidWeavers() {
		last := w
		if last.Id == 1 {
			last.Id = 99
		}
		first := []impl.Weaver{w, weaverAt(11, 15, 5000, 3), weaverAt(12, 15, 6000, 0)}
		lists = append(lists, []impl.Weaver{w}, first, append(slices.Clone(valid), last))
	}
	return lists
}

func TestWeaverConstants(t *testing.T) {
	if impl.MaxWeavers != 8 {
		t.Error("limit", impl.MaxWeavers)
	}
	if impl.SkillKnot != 1 || impl.SkillFlat != 2 || impl.SkillMend != 4 || impl.SkillShear != 8 {
		t.Error("skills", impl.SkillKnot, impl.SkillFlat, impl.SkillMend, impl.SkillShear)
	}
}

func TestIsWeaver(t *testing.T) {
	for _, w := range []impl.Weaver{
		{Id: 1, Name: "ayse", Skills: 1, Speed: 6000, Loom: 3},
		{Id: 1, Name: "a", Skills: 1, Speed: 100, Loom: 0},
		{Id: 99, Name: "zzzzzzzzzz", Skills: 15, Speed: 12000, Loom: 99},
		{Id: 50, Name: "omid", Skills: 8, Speed: 101, Loom: 1},
	} {
		if !impl.IsWeaver(w) {
			t.Errorf("%v is no Weaver", w)
		}
	}
	for _, w := range append(invalidWeavers(),
		impl.Weaver{Id: 100, Name: "a", Skills: 15, Speed: 12000, Loom: 99}, impl.Weaver{Id: 99, Name: "a", Skills: 16, Speed: 12000, Loom: 99},
		impl.Weaver{Id: 99, Name: "a", Skills: 15, Speed: 12001, Loom: 99}, impl.Weaver{Id: 99, Name: "a", Skills: 15, Speed: 12000, Loom: 100},
		impl.Weaver{Id: 0, Name: "a", Skills: 1, Speed: 100}, impl.Weaver{Id: 1, Name: "a", Skills: 0, Speed: 100},
		impl.Weaver{Id: 1, Name: "a", Skills: 1, Speed: 99}, impl.Weaver{Id: 1, Name: "a", Skills: 1, Speed: 100, Loom: -1},
		impl.Weaver{Id: 1, Name: "", Skills: 1, Speed: 100}, impl.Weaver{Id: 1, Name: "zzzzzzzzzzz", Skills: 1, Speed: 100},
	) {
		if impl.IsWeaver(w) {
			t.Errorf("%v is a Weaver", w)
		}
	}
}

func TestIsWeaverByRules(t *testing.T) {
	numbers := weaverNumbers()
	for i, id := range numbers {
		for j, skills := range numbers {
			for k, speed := range numbers {
				for _, loom := range []int{-1, 0, 1, 99, 100, numbers[(i*5+j*7+k*3)%len(numbers)]} {
					w := impl.Weaver{Id: id, Name: "ayse", Skills: skills, Speed: speed, Loom: loom}
					if impl.IsWeaver(w) != isWeaverByRules(w) {
						t.Fatalf("IsWeaver(%v) = %v", w, impl.IsWeaver(w))
					}
				}
			}
		}
	}
}

func TestAreWeavers(t *testing.T) {
	for _, list := range append(mixedWeavers(),
		// Eight, all of them at no Loom, and as many as there may be at each Loom.
		skilledList(1, 2, 3, 4, 5, 6, 7, 8), seatedList(0, 0, 0, 0, 3, 3, 3, 0), seatedList(3, 3, 3), seatedList(3, 3, 3, 4, 4, 4, 5, 5), seatedList(99, 1, 99, 1, 99, 1, 0, 0),
		[]impl.Weaver{weaverAt(98, 1, 100, 0), weaverAt(99, 1, 100, 0)}, []impl.Weaver{weaverAt(1, 15, 12000, 99)},
		// The same Name does not make the same Weaver.
		[]impl.Weaver{{Id: 1, Name: "ayse", Skills: 1, Speed: 100}, {Id: 2, Name: "ayse", Skills: 1, Speed: 100}},
	) {
		if !impl.AreWeavers(list) {
			t.Errorf("%v are no Weavers", list)
		}
	}
	for _, list := range invalidWeaverLists() {
		if impl.AreWeavers(list) {
			t.Errorf("%v are Weavers", list)
		}
	}
}

// Five and six Weavers at three Looms and at none, in all ways.
func TestAreWeaversByTheirSeats(t *testing.T) {
	for _, length := range []int{5, 6} {
		valid := 0
		for way := range 1 << (2 * length) {
			looms := make([]int, length)
			for i := range looms {
				looms[i] = []int{0, 1, 50, 99}[way>>(2*i)&3]
			}
			list := seatedList(looms...)
			want := areSeatsByRules(list)
			if impl.AreWeavers(list) != want {
				t.Fatalf("AreWeavers(%v) = %v", list, !want)
			}
			if want {
				valid++
			}
		}
		if valid == 0 || valid == 1<<(2*length) {
			t.Errorf("%d ways are valid", valid)
		}
	}
}

// What lies beyond the length of a list does not matter.
func TestWeaversBeyondLength(t *testing.T) {
	long := append(weaverList(1, 5000, 3, 2, 6000, 0, 5, 100, 0), weaverAt(9, 15, 12000, 0), impl.Weaver{Id: -1}, weaverAt(10, 8, 12000, 3))
	if !impl.AreWeavers(long[:3]) {
		t.Error("are no Weavers")
	}
	if id, ok := impl.FastestFree(long[:3]); !ok || id != 3 {
		t.Error("fastest", id, ok)
	}
	if ids, ok := impl.FewestFor(long[:3], 8); ok || len(ids) != 0 {
		t.Error("fewest", ids, ok)
	}
	if ids, ok := impl.WithSkills(long[:3], 8); !ok || len(ids) != 0 {
		t.Error("with", ids, ok)
	}
	if n, ok := impl.KnotsADay(long[:3], 3); !ok || n != 5000 {
		t.Error("knots", n, ok)
	}
	if list, ok := impl.SeatWeaver(long[:4:5], 10, 3); ok || len(list) != 0 {
		t.Error("seated", list, ok)
	}
	if list, ok := impl.TeachSkill(long[:3], 9, 1, 8); ok || len(list) != 0 {
		t.Error("taught", list, ok)
	}
	if looms, seats, ok := impl.LoomsUsed(long[:3]); !ok || !slices.Equal(looms, []int{3}) || !slices.Equal(seats, []int{1}) {
		t.Error("used", looms, seats, ok)
	}
}

// checkSeat lets a Weaver of a valid list sit at a Loom, and checks the result against the rules, and that the list stays as it is.
func checkSeat(t *testing.T, list []impl.Weaver, id, loom int) {
	t.Helper()
	given := slices.Clone(list)
	var want []impl.Weaver
	at := slices.IndexFunc(list, func(w impl.Weaver) bool { return w.Id == id })
	if at >= 0 && loom >= 0 && loom <= 99 {
		want = slices.Clone(list)
		want[at].Loom = loom
		if !areSeatsByRules(want) {
			want = nil
		}
	}
	seated, ok := impl.SeatWeaver(list, id, loom)
	if ok != (want != nil) || !slices.Equal(seated, want) {
		t.Errorf("SeatWeaver(%v, %d, %d) = %v, %v, not %v", list, id, loom, seated, ok, want)
	}
	if ok && !impl.AreWeavers(seated) {
		t.Errorf("SeatWeaver(%v, %d, %d) = %v, which is not valid", list, id, loom, seated)
	}
	if !slices.Equal(list, given) {
		t.Fatalf("SeatWeaver(%v, %d, %d) has changed the list to %v", given, id, loom, list)
	}
}

// idsAbout returns the Ids of a list, those that are next to them, and numbers that are none.
func idsAbout(list []impl.Weaver) []int {
	ids := append(oddNumbers(), 50, 99, 100)
	for _, w := range list {
		ids = append(ids, w.Id, w.Id+1, w.Id+1<<32)
	}
	slices.Sort(ids)
	return slices.Compact(ids)
}

func TestSeatWeaverByRules(t *testing.T) {
	for _, list := range append(mixedWeavers(), seatedList(3, 3, 3, 4, 4, 4, 3+96, 0)) {
		for _, id := range idsAbout(list) {
			for _, loom := range weaverNumbers() {
				checkSeat(t, list, id, loom)
			}
		}
	}
}

func TestSeatWeaver(t *testing.T) {
	for _, c := range []struct {
		looms    []int
		id, loom int
		valid    bool
	}{
		// The third one at a Loom, and the fourth one.
		{[]int{3, 3, 0}, 3, 3, true}, {[]int{3, 3, 3, 0}, 4, 3, false}, {[]int{0, 3, 3, 3}, 1, 3, false}, {[]int{3, 3, 3, 4}, 4, 3, false},
		// One of three at a Loom stays there, or goes.
		{[]int{3, 3, 3}, 1, 3, true}, {[]int{3, 3, 3}, 3, 3, true}, {[]int{3, 3, 3}, 2, 4, true}, {[]int{3, 3, 3}, 2, 0, true},
		// At none there may be any number.
		{[]int{0, 0, 0, 0, 0, 0, 0, 3}, 8, 0, true}, {[]int{0, 0, 0, 0}, 4, 0, true}, {[]int{0}, 1, 0, true},
		{[]int{0}, 1, 1, true}, {[]int{0}, 1, 99, true}, {[]int{0}, 1, 100, false}, {[]int{0}, 1, -1, false}, {[]int{5}, 1, math.MinInt, false},
		{[]int{5}, 1, math.MaxInt, false}, {[]int{5}, 1, 1<<32 + 5, false}, {[]int{5}, 1, 1 << 32, false},
		{[]int{5}, 0, 5, false}, {[]int{5}, 2, 5, false}, {[]int{5}, -1, 0, false}, {nil, 1, 1, false}, {nil, 0, 0, false},
	} {
		list := seatedList(c.looms...)
		seated, ok := impl.SeatWeaver(list, c.id, c.loom)
		if !c.valid {
			if ok || len(seated) != 0 {
				t.Errorf("SeatWeaver(%v, %d, %d) = %v, %v", list, c.id, c.loom, seated, ok)
			}
			continue
		}
		want := seatedList(c.looms...)
		want[c.id-1].Loom = c.loom
		if !ok || !slices.Equal(seated, want) {
			t.Errorf("SeatWeaver(%v, %d, %d) = %v, %v", list, c.id, c.loom, seated, ok)
		}
	}
}

// knotsByWeaver adds what each Weaver at a Loom ties in a day.
func knotsByWeaver(list []impl.Weaver, loom int) int {
	knots := 0
	for _, w := range list {
		if w.Loom == loom && w.Skills%2 == 1 {
			knots += w.Speed
		}
	}
	return knots
}

func TestKnotsADay(t *testing.T) {
	for _, c := range []struct {
		list       []impl.Weaver
		loom, want int
	}{
		{weaverList(1, 6000, 3, 2, 5000, 3, 5, 7000, 0), 3, 6000},
		{weaverList(1, 6000, 3, 3, 5000, 3, 5, 7000, 3), 3, 18000},
		{weaverList(15, 12000, 99, 15, 12000, 99, 15, 12000, 99, 15, 12000, 1), 99, 36000},
		{weaverList(15, 12000, 99, 15, 12000, 99, 15, 12000, 99, 15, 100, 1), 1, 100},
		// Nobody who sits there ties knots, or nobody sits there.
		{weaverList(2, 6000, 3, 4, 5000, 3, 8, 7000, 3, 1, 100, 4), 3, 0},
		{weaverList(14, 12000, 3, 1, 6000, 0), 3, 0},
		{weaverList(1, 6000, 3), 4, 0}, {weaverList(1, 6000, 3), 1, 0}, {weaverList(1, 6000, 3), 99, 0}, {weaverList(1, 6000, 0), 1, 0},
		{nil, 1, 0}, {[]impl.Weaver{}, 99, 0},
	} {
		if n, ok := impl.KnotsADay(c.list, c.loom); !ok || n != c.want {
			t.Errorf("KnotsADay(%v, %d) = %d, %v, not %d", c.list, c.loom, n, ok, c.want)
		}
	}
	// Each Skills: the odd ones have SkillKnot.
	for skills := 1; skills <= 15; skills++ {
		if n, ok := impl.KnotsADay(weaverList(skills, 700, 5), 5); !ok || n != skills%2*700 {
			t.Errorf("with the skills %d there are %d knots, %v", skills, n, ok)
		}
	}
	for _, list := range mixedWeavers() {
		for loom := 1; loom <= 99; loom++ {
			if n, ok := impl.KnotsADay(list, loom); !ok || n != knotsByWeaver(list, loom) {
				t.Errorf("KnotsADay(%v, %d) = %d, %v", list, loom, n, ok)
			}
		}
	}
}

// noLooms are numbers that no Loom has.
var noLooms = []int{math.MinInt, -1 << 32, -99, -3, -1, 0, 100, 101, 1 << 32, 1<<32 + 3, math.MaxInt}

func TestKnotsNeedALoom(t *testing.T) {
	for _, list := range [][]impl.Weaver{nil, weaverList(1, 6000, 0), weaverList(1, 6000, 3, 1, 100, 0)} {
		for _, loom := range noLooms {
			if n, ok := impl.KnotsADay(list, loom); ok || n != 0 {
				t.Errorf("KnotsADay(%v, %d) = %d, %v", list, loom, n, ok)
			}
			for _, knots := range []int{0, 1, 10000} {
				if n, ok := impl.DaysForKnots(list, loom, knots); ok || n != 0 {
					t.Errorf("DaysForKnots(%v, %d, %d) = %d, %v", list, loom, knots, n, ok)
				}
			}
		}
	}
}

func TestDaysForKnots(t *testing.T) {
	list := weaverList(1, 6000, 3, 2, 5000, 3, 5, 7000, 4, 3, 101, 4, 1, 100, 99, 14, 12000, 50)
	for _, c := range []struct{ loom, knots, want int }{
		{3, 0, 0}, {3, 1, 1}, {3, 5999, 1}, {3, 6000, 1}, {3, 6001, 2}, {3, 12000, 2}, {3, 12001, 3}, {3, 10000000, 1667},
		{4, 7101, 1}, {4, 7102, 2}, {4, 9999999, 1409}, {99, 10000000, 100000}, {99, 9999901, 100000}, {99, 9999900, 99999},
		{50, 0, 0}, {1, 0, 0},
	} {
		if n, ok := impl.DaysForKnots(list, c.loom, c.knots); !ok || n != c.want {
			t.Errorf("DaysForKnots(%v, %d, %d) = %d, %v, not %d", list, c.loom, c.knots, n, ok, c.want)
		}
	}
	if n, ok := impl.DaysForKnots(weaverList(1, 12000, 9, 1, 12000, 9, 1, 12000, 9), 9, 10000000); !ok || n != 278 {
		t.Error("days of three", n, ok)
	}
	// The Weavers at 50 have no SkillKnot, and nobody sits at 1.
	for _, loom := range []int{50, 1} {
		for _, knots := range []int{1, 2, 100, 12000, 10000000} {
			if n, ok := impl.DaysForKnots(list, loom, knots); ok || n != 0 {
				t.Errorf("DaysForKnots(%v, %d, %d) = %d, %v", list, loom, knots, n, ok)
			}
		}
	}
	for _, loom := range []int{1, 3, 4, 50, 99} {
		for _, knots := range []int{math.MinInt, -1 << 32, -6000, -1, 10000001, 10000002, 1 << 32, 1<<32 + 6000, 1 << 62, math.MaxInt} {
			if n, ok := impl.DaysForKnots(list, loom, knots); ok || n != 0 {
				t.Errorf("DaysForKnots(%v, %d, %d) = %d, %v", list, loom, knots, n, ok)
			}
		}
	}
}

// After the days that are told there are enough knots, and after one day less there are not.
func TestDaysAreEnoughAndNotOneLess(t *testing.T) {
	for _, list := range mixedWeavers() {
		for _, loom := range []int{1, 7, 42, 99, 13} {
			perDay := knotsByWeaver(list, loom)
			for _, knots := range []int{0, 1, 99, 100, 101, 999, 6000, perDay, perDay + 1, 2 * perDay, 2*perDay + 1, 777777, 9999999, 10000000} {
				days, ok := impl.DaysForKnots(list, loom, knots)
				if ok != (perDay > 0 || knots == 0) {
					t.Fatalf("DaysForKnots(%v, %d, %d) = %d, %v", list, loom, knots, days, ok)
				}
				if !ok && days != 0 || ok && (days < 0 || days*perDay < knots || days > 0 && (days-1)*perDay >= knots) {
					t.Fatalf("DaysForKnots(%v, %d, %d) = %d, %v, with %d a day", list, loom, knots, days, ok, perDay)
				}
			}
		}
	}
}

func TestWithSkills(t *testing.T) {
	list := weaverList(1, 6000, 3, 2, 5000, 3, 5, 7000, 0, 15, 100, 0, 10, 100, 7)
	for skills, want := range map[int][]int{1: {1, 3, 4}, 2: {2, 4, 5}, 3: {4}, 4: {3, 4}, 5: {3, 4}, 6: {4}, 7: {4}, 8: {4, 5}, 9: {4}, 10: {4, 5}, 15: {4}} {
		if ids, ok := impl.WithSkills(list, skills); !ok || !slices.Equal(ids, want) {
			t.Errorf("WithSkills(%v, %d) = %v, %v", list, skills, ids, ok)
		}
	}
	if ids, ok := impl.WithSkills(list[:3], 8); !ok || len(ids) != 0 {
		t.Error("nobody can shear", ids, ok)
	}
	if ids, ok := impl.WithSkills(nil, 15); !ok || len(ids) != 0 {
		t.Error("nobody", ids, ok)
	}
	for _, list := range mixedWeavers() {
		for skills := 1; skills <= 15; skills++ {
			var want []int
			for _, w := range list {
				if missingOf(skills, w.Skills) == 0 {
					want = append(want, w.Id)
				}
			}
			if ids, ok := impl.WithSkills(list, skills); !ok || !slices.Equal(ids, want) {
				t.Errorf("WithSkills(%v, %d) = %v, %v, not %v", list, skills, ids, ok, want)
			}
		}
	}
}

// missingOf returns the sum of those of the wanted skills that are not among others, one skill at a time.
func missingOf(wanted, others int) int {
	missing := 0
	for skill := 1; skill <= 8; skill *= 2 {
		if wanted/skill%2 == 1 && others/skill%2 == 0 {
			missing += skill
		}
	}
	return missing
}

// noSkills are numbers that are no sum of skills.
var noSkills = []int{math.MinInt, -1 << 32, -15, -2, -1, 0, 16, 17, 31, 32, 1 << 32, 1<<32 + 1, 1 << 62, math.MaxInt}

func TestOtherSumsOfSkills(t *testing.T) {
	for _, list := range [][]impl.Weaver{nil, skilledList(15, 15), weaverList(1, 6000, 3, 2, 5000, 3)} {
		for _, skills := range noSkills {
			if ids, ok := impl.WithSkills(list, skills); ok || len(ids) != 0 {
				t.Errorf("WithSkills(%v, %d) = %v, %v", list, skills, ids, ok)
			}
			if ids, ok := impl.FewestFor(list, skills); ok || len(ids) != 0 {
				t.Errorf("FewestFor(%v, %d) = %v, %v", list, skills, ids, ok)
			}
		}
	}
}

func TestFewestFor(t *testing.T) {
	for _, c := range []struct {
		list   []impl.Weaver
		skills int
		want   []int
	}{
		{skilledList(1, 2, 5), 7, []int{2, 3}},
		{skilledList(1, 2, 5), 1, []int{1}},
		{skilledList(1, 2, 5), 4, []int{3}},
		{skilledList(1, 2, 5), 5, []int{3}},
		{skilledList(1, 2, 5), 3, []int{1, 2}},
		{skilledList(1, 2, 5), 8, nil},
		{skilledList(1, 2, 5), 15, nil},
		// One alone, who comes last, is fewer than two who come first.
		{skilledList(1, 2, 4, 8, 15), 15, []int{5}},
		{skilledList(1, 2, 4, 8, 15), 9, []int{5}},
		{skilledList(3, 5, 9, 14), 15, []int{1, 4}},
		// All four are needed, and more skills than are wanted do no harm.
		{skilledList(1, 2, 4, 8), 15, []int{1, 2, 3, 4}},
		{skilledList(8, 8, 4, 4, 2, 2, 1, 1), 15, []int{1, 3, 5, 7}},
		{skilledList(1, 1, 1, 1, 2, 4, 4, 8), 15, []int{1, 5, 6, 8}},
		{skilledList(14, 15, 1), 1, []int{2}},
		// Of the same size the smallest first Id, and then the smallest second one.
		{skilledList(3, 5, 10, 12), 15, []int{1, 4}},
		{skilledList(5, 3, 12, 10), 15, []int{1, 4}},
		{skilledList(1, 7, 7, 9, 14), 15, []int{1, 5}},
		{skilledList(2, 7, 7, 8, 8), 15, []int{2, 4}},
		{skilledList(3, 3, 12, 12), 15, []int{1, 3}},
		{skilledList(12, 1, 8, 3), 15, []int{1, 4}},
		{skilledList(8, 1, 4, 2), 15, []int{1, 2, 3, 4}},
		{skilledList(1, 2, 6, 8, 12), 15, []int{1, 2, 5}},
		{skilledList(1, 1, 2, 6, 8, 12), 15, []int{1, 3, 6}},
		{skilledList(1, 8, 2, 4, 6), 15, []int{1, 2, 5}},
		{skilledList(15, 15), 15, []int{1}},
		{skilledList(1, 1, 1, 1, 1, 1, 1, 2), 3, []int{1, 8}},
		{skilledList(1, 1, 1, 1, 1, 1, 1, 2), 2, []int{8}},
		{skilledList(15), 1, []int{1}},
		{skilledList(1), 15, nil},
		{skilledList(7, 7, 7, 7, 7, 7, 7, 7), 15, nil},
		{nil, 1, nil}, {nil, 15, nil}, {[]impl.Weaver{}, 8, nil},
		{[]impl.Weaver{weaverAt(7, 9, 100, 1), weaverAt(60, 6, 100, 1), weaverAt(99, 6, 12000, 0)}, 15, []int{7, 60}},
	} {
		if ids, ok := impl.FewestFor(c.list, c.skills); ok != (c.want != nil) || !slices.Equal(ids, c.want) {
			t.Errorf("FewestFor(%v, %d) = %v, %v, not %v", c.list, c.skills, ids, ok, c.want)
		}
	}
}

// groupOfSize returns the Ids of the first group of a size, in lexicographic order, that has all skills; if there is none it returns nil.
func groupOfSize(list []impl.Weaver, skills, size int) []int {
	if size == 0 {
		if skills > 0 {
			return nil
		}
		return []int{}
	}
	for i, w := range list {
		if ids := groupOfSize(list[i+1:], missingOf(skills, w.Skills), size-1); ids != nil {
			return append([]int{w.Id}, ids...)
		}
	}
	return nil
}

// checkFewest checks promise 11 for all sums of skills: the fewest have all of them together, and no fewer and no lexicographically smaller ones do.
func checkFewest(t *testing.T, list []impl.Weaver) {
	t.Helper()
	given := slices.Clone(list)
	for skills := 1; skills <= 15; skills++ {
		var want []int
		for size := 1; size <= len(list) && want == nil; size++ {
			want = groupOfSize(list, skills, size)
		}
		ids, ok := impl.FewestFor(list, skills)
		if ok != (want != nil) || !slices.Equal(ids, want) {
			t.Fatalf("FewestFor(%v, %d) = %v, %v, not %v", list, skills, ids, ok, want)
		}
		missing := skills
		for _, w := range list {
			if slices.Contains(ids, w.Id) {
				missing = missingOf(missing, w.Skills)
			}
		}
		if ok && missing != 0 || !ok && len(ids) != 0 {
			t.Fatalf("FewestFor(%v, %d) = %v, %v: %d is missing", list, skills, ids, ok, missing)
		}
	}
	if !slices.Equal(list, given) {
		t.Fatalf("%v has become %v", given, list)
	}
}

// Promise 11: the fewest weavers have all skills together.
func TestFewestHaveAllSkillsTogether(t *testing.T) {
	for _, list := range mixedWeavers() {
		checkFewest(t, list)
	}
	// Up to three Weavers in all ways.
	for a := 1; a <= 15; a++ {
		checkFewest(t, skilledList(a))
		for b := 1; b <= 15; b++ {
			checkFewest(t, skilledList(a, b))
			for c := 1; c <= 15; c++ {
				checkFewest(t, skilledList(a, b, c))
			}
		}
	}
}

// Promise 11 for lists of four to eight Weavers, of whom each has few skills, so that several are needed and it can be others, too.
func TestFewestOfManyHaveAllSkillsTogether(t *testing.T) {
	next := dyeNumbers(15)
	for _, kit := range [][]int{{1, 2, 4, 8}, {3, 5, 10, 12}, {1, 6, 8, 9}, {1, 2, 6, 8, 12}, {1, 1, 1, 2, 4, 6, 8, 10, 12}, {1, 2, 4, 8, 3, 5, 6, 9, 10, 12, 7, 14}} {
		for length := 4; length <= 8; length++ {
			for range 300 {
				skills := make([]int, length)
				for i := range skills {
					skills[i] = kit[next(len(kit))]
				}
				checkFewest(t, skilledList(skills...))
			}
		}
	}
}

func TestFastestFree(t *testing.T) {
	for _, c := range []struct {
		list []impl.Weaver
		want int
	}{
		{weaverList(1, 6000, 3, 2, 5000, 3, 5, 7000, 0), 3},
		{weaverList(1, 5000, 0, 1, 6000, 0, 1, 5500, 0), 2},
		{weaverList(1, 6000, 0, 1, 6000, 0), 1},
		{weaverList(1, 100, 0, 3, 6000, 0, 5, 6000, 0, 1, 6000, 3), 2},
		{weaverList(15, 12000, 1, 15, 100, 0), 2},
		// Without SkillKnot, or at a Loom, the greatest Speed is of no use.
		{weaverList(14, 12000, 0, 1, 100, 0), 2},
		{weaverList(1, 100, 0, 2, 12000, 0, 1, 12000, 99), 1},
		{weaverList(2, 6000, 0, 4, 6000, 0, 8, 6000, 0, 14, 6000, 0), 0},
		{weaverList(1, 6000, 1, 1, 6000, 2, 1, 6000, 99), 0},
		{weaverList(1, 6000, 1, 2, 6000, 0), 0},
		{weaverList(1, 100, 0), 1}, {weaverList(1, 12000, 0), 1},
		{[]impl.Weaver{weaverAt(98, 1, 100, 0), weaverAt(99, 1, 101, 0)}, 99},
		{nil, 0}, {[]impl.Weaver{}, 0},
	} {
		if id, ok := impl.FastestFree(c.list); ok != (c.want > 0) || id != c.want {
			t.Errorf("FastestFree(%v) = %d, %v, not %d", c.list, id, ok, c.want)
		}
	}
	found := 0
	for _, list := range mixedWeavers() {
		want := fastestBySpeed(list)
		found += want
		if id, ok := impl.FastestFree(list); ok != (want > 0) || id != want {
			t.Errorf("FastestFree(%v) = %d, %v, not %d", list, id, ok, want)
		}
	}
	if found == 0 {
		t.Error("nobody is free")
	}
}

// fastestBySpeed looks at each Speed in turn, from the greatest one on, and there at the Weavers in their order.
func fastestBySpeed(list []impl.Weaver) int {
	for speed := 12000; speed >= 100; speed-- {
		for _, w := range list {
			if w.Speed == speed && w.Loom == 0 && w.Skills%2 == 1 {
				return w.Id
			}
		}
	}
	return 0
}

func TestTeachSkill(t *testing.T) {
	for _, c := range []struct {
		skills                []int
		teacher, pupil, skill int
		want                  []int
	}{
		{[]int{1, 2, 5}, 3, 1, impl.SkillMend, []int{5, 2, 5}},
		{[]int{1, 2, 5}, 1, 2, impl.SkillKnot, []int{1, 3, 5}},
		{[]int{1, 2, 5}, 2, 3, impl.SkillFlat, []int{1, 2, 7}},
		{[]int{8, 7}, 1, 2, impl.SkillShear, []int{8, 15}},
		{[]int{7, 15}, 2, 1, impl.SkillShear, []int{15, 15}},
		// The pupil knows it already.
		{[]int{1, 2, 5}, 3, 1, impl.SkillKnot, []int{1, 2, 5}},
		{[]int{1, 2, 5}, 1, 3, impl.SkillKnot, []int{1, 2, 5}},
		{[]int{15, 15}, 1, 2, impl.SkillFlat, []int{15, 15}},
		{[]int{15, 8}, 1, 2, impl.SkillShear, []int{15, 8}},
		{[]int{4, 12}, 1, 2, impl.SkillMend, []int{4, 12}},
		// The teacher lacks it, though the pupil may have it.
		{[]int{1, 2, 5}, 3, 1, impl.SkillShear, nil},
		{[]int{1, 2, 5}, 3, 1, impl.SkillFlat, nil},
		{[]int{1, 2, 5}, 1, 3, impl.SkillMend, nil},
		{[]int{14, 1}, 1, 2, impl.SkillKnot, nil},
		// Nobody teaches themselves.
		{[]int{15, 1}, 1, 1, impl.SkillKnot, nil},
		{[]int{15, 1}, 2, 2, impl.SkillFlat, nil},
		// Several skills, or none.
		{[]int{15, 1}, 1, 2, 3, nil}, {[]int{15, 1}, 1, 2, 6, nil}, {[]int{15, 1}, 1, 2, 7, nil}, {[]int{15, 1}, 1, 2, 15, nil}, {[]int{15, 1}, 1, 2, 0, nil},
		{[]int{15, 1}, 1, 2, -1, nil}, {[]int{15, 1}, 1, 2, 16, nil}, {[]int{15, 1}, 1, 2, 1 << 32, nil}, {[]int{15, 1}, 1, 2, math.MinInt, nil},
		{[]int{15, 15}, 1, 2, 3, nil}, {[]int{15, 15}, 1, 2, 0, nil},
		// One of them is not there.
		{[]int{15, 1}, 3, 1, 1, nil}, {[]int{15, 1}, 1, 3, 1, nil}, {[]int{15, 1}, 0, 1, 1, nil}, {[]int{15, 1}, 1, 0, 1, nil}, {[]int{15, 1}, 3, 3, 1, nil},
		{[]int{15, 1}, 1<<32 + 1, 2, 1, nil}, {[]int{15, 1}, 1, 1<<32 + 2, 1, nil}, {[]int{15, 1}, 0, 0, 1, nil}, {nil, 1, 2, 1, nil},
	} {
		list := skilledList(c.skills...)
		taught, ok := impl.TeachSkill(list, c.teacher, c.pupil, c.skill)
		if ok != (c.want != nil) || !slices.Equal(taught, skilledList(c.want...)) {
			t.Errorf("TeachSkill(%v, %d, %d, %d) = %v, %v", list, c.teacher, c.pupil, c.skill, taught, ok)
		}
		if !slices.Equal(list, skilledList(c.skills...)) {
			t.Errorf("TeachSkill has changed the list to %v", list)
		}
	}
}

// Each Skills of a teacher and of a pupil, who come in both orders, and each number for the skill.
func TestTeachSkillByRules(t *testing.T) {
	numbers := weaverNumbers()
	for a := 1; a <= 15; a++ {
		for b := 1; b <= 15; b++ {
			list := []impl.Weaver{weaverAt(5, a, 100, 9), weaverAt(7, 15, 101, 0), weaverAt(99, b, 12000, 9)}
			for _, skill := range append(numbers, 10, 11, 12, 13) {
				single := skill == 1 || skill == 2 || skill == 4 || skill == 8
				checkTaught(t, list, 5, 99, skill, single && a/max(skill, 1)%2 == 1)
				checkTaught(t, list, 99, 5, skill, single && b/max(skill, 1)%2 == 1)
				checkTaught(t, list, 7, 5, skill, single)
				checkTaught(t, list, 7, 7, skill, false)
				checkTaught(t, list, 5, 6, skill, false)
				checkTaught(t, list, 6, 5, skill, false)
			}
		}
	}
}

// checkTaught checks that just the pupil gets the skill, and nothing else, or that the teaching fails.
func checkTaught(t *testing.T, list []impl.Weaver, teacher, pupil, skill int, valid bool) {
	t.Helper()
	given := slices.Clone(list)
	var want []impl.Weaver
	for _, w := range list {
		if w.Id == pupil && valid && w.Skills/skill%2 == 0 {
			w.Skills += skill
		}
		if valid {
			want = append(want, w)
		}
	}
	taught, ok := impl.TeachSkill(list, teacher, pupil, skill)
	if ok != valid || !slices.Equal(taught, want) {
		t.Fatalf("TeachSkill(%v, %d, %d, %d) = %v, %v, not %v", list, teacher, pupil, skill, taught, ok, want)
	}
	if !slices.Equal(list, given) {
		t.Fatalf("TeachSkill(%v, %d, %d, %d) has changed the list to %v", given, teacher, pupil, skill, list)
	}
}

func TestLoomsUsed(t *testing.T) {
	for _, c := range []struct{ at, looms, seats []int }{
		{[]int{3, 3, 0}, []int{3}, []int{2}},
		{[]int{9, 3, 9, 0, 3, 9}, []int{3, 9}, []int{2, 3}},
		{[]int{99, 1, 50, 1, 1}, []int{1, 50, 99}, []int{3, 1, 1}},
		{[]int{8, 7, 6, 5, 4, 3, 2, 1}, []int{1, 2, 3, 4, 5, 6, 7, 8}, []int{1, 1, 1, 1, 1, 1, 1, 1}},
		{[]int{4, 5, 6, 4, 5, 6, 4, 5}, []int{4, 5, 6}, []int{3, 3, 2}},
		{[]int{0}, nil, nil}, {[]int{0, 0, 0, 0, 0, 0, 0, 0}, nil, nil}, {nil, nil, nil},
	} {
		if looms, seats, ok := impl.LoomsUsed(seatedList(c.at...)); !ok || !slices.Equal(looms, c.looms) || !slices.Equal(seats, c.seats) {
			t.Errorf("LoomsUsed of Weavers at %v = %v, %v, %v", c.at, looms, seats, ok)
		}
	}
	// Those without SkillKnot sit there, too.
	if looms, seats, ok := impl.LoomsUsed(weaverList(2, 5000, 9, 14, 100, 9, 4, 100, 2)); !ok || !slices.Equal(looms, []int{2, 9}) || !slices.Equal(seats, []int{1, 2}) {
		t.Error("used without knotters", looms, seats, ok)
	}
	for _, list := range mixedWeavers() {
		var wantLooms, wantSeats []int
		for loom := 1; loom <= 99; loom++ {
			if count := sittersAt(list, loom); count > 0 {
				wantLooms, wantSeats = append(wantLooms, loom), append(wantSeats, count)
			}
		}
		if looms, seats, ok := impl.LoomsUsed(list); !ok || !slices.Equal(looms, wantLooms) || !slices.Equal(seats, wantSeats) {
			t.Errorf("LoomsUsed(%v) = %v, %v, %v", list, looms, seats, ok)
		}
	}
}

func TestWeaverFunctionsRefuseInvalidLists(t *testing.T) {
	for _, list := range invalidWeaverLists() {
		for _, id := range []int{-1, 0, 1, 2, 3, 11, 12, 99, 100} {
			for _, n := range []int{0, 1, 2, 3, 4} {
				if seated, ok := impl.SeatWeaver(list, id, n); ok || len(seated) != 0 {
					t.Errorf("SeatWeaver(%v, %d, %d) = %v, %v", list, id, n, seated, ok)
				}
				for _, teacher := range []int{1, 2, 11} {
					if taught, ok := impl.TeachSkill(list, teacher, id, n); ok || len(taught) != 0 {
						t.Errorf("TeachSkill(%v, %d, %d, %d) = %v, %v", list, teacher, id, n, taught, ok)
					}
				}
			}
		}
		for n := range 16 {
			knots, okKnots := impl.KnotsADay(list, n)
			days, okDays := impl.DaysForKnots(list, n, 0)
			more, okMore := impl.DaysForKnots(list, 3, n)
			with, okWith := impl.WithSkills(list, n)
			fewest, okFewest := impl.FewestFor(list, n)
			if okKnots || okDays || okMore || okWith || okFewest || knots != 0 || days != 0 || more != 0 || len(with)+len(fewest) != 0 {
				t.Errorf("for %v and %d there is %d, %d, %d, %v, %v", list, n, knots, days, more, with, fewest)
			}
		}
		if id, ok := impl.FastestFree(list); ok || id != 0 {
			t.Errorf("FastestFree(%v) = %d, %v", list, id, ok)
		}
		if looms, seats, ok := impl.LoomsUsed(list); ok || len(looms)+len(seats) != 0 {
			t.Errorf("LoomsUsed(%v) = %v, %v, %v", list, looms, seats, ok)
		}
	}
}

// A list that was invalid for one Weaver too many at a Loom, or in all, is valid without that one.
func TestWeaversAfterOneLess(t *testing.T) {
	crowded := seatedList(3, 3, 3, 3)
	if _, ok := impl.FastestFree(crowded); ok || impl.AreWeavers(crowded) || !impl.AreWeavers(crowded[:3]) {
		t.Error("four at a Loom")
	}
	nine := skilledList(1, 1, 1, 1, 1, 1, 1, 1, 1)
	if id, ok := impl.FastestFree(nine[:8]); !ok || id != 1 || impl.AreWeavers(nine) {
		t.Error("nine", id, ok)
	}
}

// weaverResults calls each function that returns numbers, so that it succeeds, for a list of Weavers with all skills.
func weaverResults(list []impl.Weaver) [][]int {
	with, _ := impl.WithSkills(list, 1)
	fewest, _ := impl.FewestFor(list, 15)
	looms, seats, _ := impl.LoomsUsed(list)
	return [][]int{with, fewest, looms, seats}
}

// weaverCopies calls each function that returns a list of Weavers, so that it succeeds, for a list of at least two Weavers, of whom the first has all skills.
func weaverCopies(list []impl.Weaver) [][]impl.Weaver {
	stayed, _ := impl.SeatWeaver(list, list[0].Id, list[0].Loom)
	moved, _ := impl.SeatWeaver(list, list[1].Id, 0)
	taught, _ := impl.TeachSkill(list, list[0].Id, list[1].Id, 8)
	known, _ := impl.TeachSkill(list, list[1].Id, list[0].Id, 1)
	return [][]impl.Weaver{stayed, moved, taught, known}
}

// Whatever is written to one result, over all of its memory, neither another one nor the argument changes.
func TestWeaverResultsAreSeparate(t *testing.T) {
	for length := 2; length <= 8; length++ {
		long := append(weaverList(15, 5000, 3, 3, 6000, 3, 1, 100, 4, 1, 100, 5, 1, 100, 6, 1, 100, 4, 1, 100, 0, 5, 100, 9)[:length], weaverAt(98, 1, 100, 0), weaverAt(99, 1, 100, 0))
		given := slices.Clone(long)
		list := long[:length]
		for i, numbers := range weaverResults(list) {
			if len(numbers) == 0 {
				t.Fatalf("result %d of %v is empty", i, list)
			}
		}
		checkSeparate(t, append(weaverResults(list), weaverResults(list)...), -1)
		copies := append(weaverCopies(list), weaverCopies(list)...)
		for i, weavers := range copies {
			if len(weavers) != length {
				t.Fatalf("copy %d of %v is %v", i, list, weavers)
			}
		}
		checkSeparate(t, copies, impl.Weaver{Id: -1})
		if !slices.Equal(long, given) {
			t.Errorf("%v has become %v", given, long)
		}
	}
}

func TestWeaverResultsShareNoText(t *testing.T) {
	name := strings.Repeat("a", 10)
	list := []impl.Weaver{{Id: 1, Name: name, Skills: 15, Speed: 100, Loom: 3}, {Id: 2, Name: name, Skills: 1, Speed: 100, Loom: 3}}
	seen := map[*byte]bool{unsafe.StringData(name): true}
	for i, copied := range weaverCopies(list) {
		if len(copied) != 2 {
			t.Fatalf("copy %d is %v", i, copied)
		}
		for _, w := range copied {
			if w.Name != name || seen[unsafe.StringData(w.Name)] {
				t.Errorf("copy %d, %v, shares a Name", i, copied)
			}
			seen[unsafe.StringData(w.Name)] = true
		}
	}
}

// weaverAnswers calls each function of the chapter, and returns all that they return as text.
func weaverAnswers(list []impl.Weaver, a, b, c int) string {
	seated, okSeated := impl.SeatWeaver(list, a, b)
	knots, okKnots := impl.KnotsADay(list, a)
	days, okDays := impl.DaysForKnots(list, a, b)
	with, okWith := impl.WithSkills(list, a)
	fewest, okFewest := impl.FewestFor(list, a)
	free, okFree := impl.FastestFree(list)
	taught, okTaught := impl.TeachSkill(list, a, b, c)
	looms, seats, okLooms := impl.LoomsUsed(list)
	return fmt.Sprint(impl.AreWeavers(list), seated, okSeated, knots, okKnots, days, okDays, with, okWith, fewest, okFewest, free, okFree,
		taught, okTaught, looms, seats, okLooms)
}

// Each function returns for odd numbers and odd lists, changes none, and does the same at each call.
func TestWeaverFunctionsAreTotal(t *testing.T) {
	numbers := append(oddNumbers(), 4, 15, 16, 99, 100, 10000000)
	for _, list := range append(invalidWeaverLists(), nil, skilledList(15, 15), weaverList(15, 5000, 3, 3, 6000, 3, 1, 100, 4)) {
		given := slices.Clone(list)
		for i, a := range numbers {
			for j, b := range numbers {
				c := numbers[(i*5+j*3)%len(numbers)]
				if first, second := weaverAnswers(list, a, b, c), weaverAnswers(list, a, b, c); first != second {
					t.Fatalf("for %v, %d, %d and %d there is %s, and then %s", list, a, b, c, first, second)
				}
			}
		}
		if !slices.Equal(list, given) {
			t.Errorf("%v has become %v", given, list)
		}
	}
}

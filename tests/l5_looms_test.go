package tests

import (
	"math"
	"slices"
	"testing"

	"loop.example/g01023/impl"
)

func TestLoomConstants(t *testing.T) {
	if impl.MaxLooms != 8 {
		t.Error("limit", impl.MaxLooms)
	}
	if impl.LoomEmpty != 0 || impl.LoomWarped != 1 || impl.LoomBusy != 2 || impl.LoomBroken != 3 {
		t.Error("states", impl.LoomEmpty, impl.LoomWarped, impl.LoomBusy, impl.LoomBroken)
	}
}

// loomAt returns a valid Loom in a state; its Warps and its Pull depend on its Id, if it is not empty.
func loomAt(id, wide, state int) impl.Loom {
	if state == impl.LoomEmpty {
		return impl.Loom{Id: id, Wide: wide}
	}
	return impl.Loom{Id: id, Wide: wide, Warps: 10 + id, Pull: 50 + id, State: state}
}

// loomList returns a list of Looms with Ids from 1 on, given as pairs of Wide and a state.
func loomList(looms ...int) []impl.Loom {
	var list []impl.Loom
	for i := 0; i < len(looms); i += 2 {
		list = append(list, loomAt(i/2+1, looms[i], looms[i+1]))
	}
	return list
}

// mixedLooms returns lists of all lengths; their widths are often equal, and their Ids reach 99.
func mixedLooms() [][]impl.Loom {
	state := 4711
	next := func(below int) int {
		state = (state*1103 + 12345) % 65537
		return state / 7 % below
	}
	lists := [][]impl.Loom{nil, {}}
	for length := 1; length <= impl.MaxLooms; length++ {
		for seed := range 40 {
			widths := []int{30, 600, 120, 121, 334, 31}[:seed%6+1]
			var list []impl.Loom
			for i := range length {
				list = append(list, loomAt((i+1)*99/length-next(9), widths[next(len(widths))], next(seed%4+1)))
			}
			lists = append(lists, list)
		}
	}
	return lists
}

// isLoomByRules tells from the rules of the document whether a Loom is valid.
func isLoomByRules(x impl.Loom) bool {
	if x.Id < 1 || x.Id > 99 || x.Wide < 30 || x.Wide > 600 || x.Warps < 0 || x.Warps > 4000 || x.Pull < 0 || x.Pull > 500 {
		return false
	}
	strung := x.Warps >= 10 && x.Warps <= 12*x.Wide && x.Pull >= 50
	return x.State == 0 && x.Warps == 0 && x.Pull == 0 || x.State == 1 && strung || x.State == 2 && strung || x.State == 3
}

// invalidLooms returns Looms of which one field is not valid.
func invalidLooms() []impl.Loom {
	looms := []impl.Loom{
		{}, {Id: 1, Wide: 120, Warps: 10}, {Id: 1, Wide: 120, Pull: 1}, {Id: 1, Wide: 120, Warps: 10, Pull: 50},
	}
	for _, state := range []int{impl.LoomEmpty, impl.LoomWarped, impl.LoomBusy, impl.LoomBroken} {
		add := func(change func(*impl.Loom)) {
			x := loomAt(1, 120, state)
			change(&x)
			looms = append(looms, x)
		}
		for _, n := range []int{math.MinInt, -1 << 32, -1, 0, 100, 1<<32 + 1, math.MaxInt} {
			add(func(x *impl.Loom) { x.Id = n })
		}
		for _, n := range []int{math.MinInt, -120, -1, 0, 29, 601, 1<<32 + 120, math.MaxInt} {
			add(func(x *impl.Loom) { x.Wide = n })
		}
		for _, n := range []int{math.MinInt, -1, 4001, 1<<32 + 100, math.MaxInt} {
			add(func(x *impl.Loom) { x.Warps = n })
		}
		for _, n := range []int{math.MinInt, -1, 501, 1<<32 + 100, math.MaxInt} {
			add(func(x *impl.Loom) { x.Pull = n })
		}
		for _, n := range []int{math.MinInt, -1, 4, 5, 1<<32 + 2, math.MaxInt} {
			add(func(x *impl.Loom) { x.State = n })
		}
	}
	for _, state := range []int{impl.LoomWarped, impl.LoomBusy} {
		for _, n := range []int{0, 1, 9, 1441, 4000} {
			looms = append(looms, impl.Loom{Id: 1, Wide: 120, Warps: n, Pull: 50, State: state})
		}
		for _, n := range []int{0, 1, 49} {
			looms = append(looms, impl.Loom{Id: 1, Wide: 120, Warps: 10, Pull: n, State: state})
		}
	}
	return looms
}

// invalidLoomLists returns lists that are not valid; most of them hold a Loom of each state with a valid Id.
func invalidLoomLists() [][]impl.Loom {
	valid := loomList(120, 0, 120, 1, 120, 2, 120, 3)
	lists := [][]impl.Loom{
		{valid[1], valid[0]}, {valid[0], valid[0]}, {valid[0], valid[2], valid[1]}, {valid[0], valid[1], valid[1]},
		{valid[3], valid[2], valid[1], valid[0]}, {valid[1], valid[2], valid[3], valid[0]}, {{}},
		loomList(120, 0, 120, 1, 120, 2, 120, 3, 120, 0, 120, 1, 120, 2, 120, 3, 120, 0),
		loomList(make([]int, 40)...),
	}
	higher := slices.Clone(valid)
	for i := range higher {
		higher[i].Id += 10
	}
	for _, x := range invalidLooms() {
		lists = append(lists, []impl.Loom{x}, append([]impl.Loom{x}, higher...))
		if x.Id == 1 {
			x.Id = 99
		}
		lists = append(lists, append(slices.Clone(valid), x))
	}
	return lists
}

func TestIsLoom(t *testing.T) {
	for _, x := range []impl.Loom{
		{Id: 1, Wide: 30}, {Id: 99, Wide: 600},
		{Id: 1, Wide: 30, Warps: 10, Pull: 50, State: 1}, {Id: 1, Wide: 30, Warps: 360, Pull: 500, State: 1},
		{Id: 1, Wide: 30, Warps: 10, Pull: 50, State: 2}, {Id: 1, Wide: 30, Warps: 360, Pull: 500, State: 2},
		{Id: 1, Wide: 333, Warps: 3996, Pull: 50, State: 2}, {Id: 1, Wide: 334, Warps: 4000, Pull: 50, State: 2},
		// A broken one has any numbers.
		{Id: 1, Wide: 30, State: 3}, {Id: 1, Wide: 30, Warps: 4000, Pull: 500, State: 3}, {Id: 1, Wide: 30, Warps: 1, State: 3},
		{Id: 1, Wide: 30, Pull: 49, State: 3},
	} {
		if !impl.IsLoom(x) {
			t.Errorf("%v is no Loom", x)
		}
	}
	for _, x := range append(invalidLooms(),
		impl.Loom{Id: 1, Wide: 30, Warps: 361, Pull: 500, State: 1}, impl.Loom{Id: 1, Wide: 30, Warps: 361, Pull: 500, State: 2},
		impl.Loom{Id: 1, Wide: 333, Warps: 3997, Pull: 50, State: 2}, impl.Loom{Id: 1, Wide: 334, Warps: 4001, Pull: 50, State: 2},
	) {
		if impl.IsLoom(x) {
			t.Errorf("%v is a Loom", x)
		}
	}
}

func TestIsLoomByRules(t *testing.T) {
	for _, id := range append(oddNumbers(), 98, 99, 100) {
		for _, wide := range append(oddNumbers(), 29, 30, 31, 120, 333, 334, 599, 600, 601) {
			for _, warps := range append(oddNumbers(), 10, 11, 359, 360, 361, 12*120, 12*120+1, 3996, 3997, 3999, 4000, 4001) {
				for _, pull := range []int{math.MinInt, -1, 0, 1, 49, 50, 51, 499, 500, 501, math.MaxInt} {
					for _, state := range []int{math.MinInt, -1, 0, 1, 2, 3, 4, math.MaxInt} {
						x := impl.Loom{Id: id, Wide: wide, Warps: warps, Pull: pull, State: state}
						if impl.IsLoom(x) != isLoomByRules(x) {
							t.Fatalf("IsLoom(%v) = %v", x, impl.IsLoom(x))
						}
					}
				}
			}
		}
	}
}

func TestAreLooms(t *testing.T) {
	for _, list := range append(mixedLooms(), loomList(30, 0, 600, 1, 30, 2, 31, 3, 30, 0, 30, 0, 30, 0, 30, 0), []impl.Loom{{Id: 98, Wide: 30}, {Id: 99, Wide: 30}}) {
		if !impl.AreLooms(list) {
			t.Errorf("%v are no Looms", list)
		}
	}
	for _, list := range invalidLoomLists() {
		if impl.AreLooms(list) {
			t.Errorf("%v are Looms", list)
		}
	}
}

// What lies beyond the length of a list does not matter.
func TestLoomsBeyondLength(t *testing.T) {
	long := append(loomList(120, 2, 200, 0, 30, 0), impl.Loom{Id: 1, Wide: 600}, impl.Loom{Id: -1}, impl.Loom{Id: 60, Wide: 600})
	if !impl.AreLooms(long[:3]) {
		t.Error("are no Looms")
	}
	if id, ok := impl.WidestFree(long[:3]); !ok || id != 2 {
		t.Error("widest", id, ok)
	}
	if id, ok := impl.LoomFor(long[:3], 201); ok || id != 0 {
		t.Error("for 201", id, ok)
	}
	if n, ok := impl.DaysLeft(long[:0], 1); ok || n != 0 {
		t.Error("left", n, ok)
	}
	if list, ok := impl.WarpLoom(long[:5:6], 60, 100, 100); ok || len(list) != 0 {
		t.Error("warped", list, ok)
	}
}

// loomSteps are the names of the functions that change a Loom.
var loomSteps = []string{"WarpLoom", "BeginCarpet", "WeaveDays", "TightenLoom", "CutOff"}

// doLoomStep calls one of these functions with as many of the numbers as it takes; the count is 0 for those that return none.
func doLoomStep(name string, list []impl.Loom, id, a, b int) (changed []impl.Loom, count int, ok bool) {
	switch name {
	case "WarpLoom":
		changed, ok = impl.WarpLoom(list, id, a, b)
	case "BeginCarpet":
		changed, ok = impl.BeginCarpet(list, id)
	case "WeaveDays":
		changed, count, ok = impl.WeaveDays(list, id, a)
	case "TightenLoom":
		changed, ok = impl.TightenLoom(list, id, a)
	case "CutOff":
		changed, count, ok = impl.CutOff(list, id)
	}
	return changed, count, ok
}

// loomStepByRules tells from the rules of the document what becomes of a valid Loom, and the count.
func loomStepByRules(name string, x impl.Loom, a, b int) (impl.Loom, int, bool) {
	none := impl.Loom{}
	switch name {
	case "WarpLoom":
		y := impl.Loom{Id: x.Id, Wide: x.Wide, Warps: a, Pull: b, State: 1}
		if x.State != 0 || !isLoomByRules(y) {
			return none, 0, false
		}
		return y, 0, true
	case "BeginCarpet":
		if x.State != 1 {
			return none, 0, false
		}
		x.State = 2
		return x, 0, true
	case "WeaveDays":
		if x.State != 2 || a < 0 || a > 200 {
			return none, 0, false
		}
		for day := range a {
			if x.Pull-3 < 50 {
				x.State = 3
				return x, day, true
			}
			x.Pull -= 3
		}
		return x, a, true
	case "TightenLoom":
		if x.State != 1 && x.State != 2 || a < x.Pull || a > 500 {
			return none, 0, false
		}
		x.Pull = a
		return x, 0, true
	}
	if x.State == 0 {
		return none, 0, false
	}
	return impl.Loom{Id: x.Id, Wide: x.Wide}, x.Warps, true
}

// checkLoomStep does a step for one Id of a valid list, and checks all results and that the list stays as it is.
func checkLoomStep(t *testing.T, step string, list []impl.Loom, id, a, b int) {
	t.Helper()
	given := slices.Clone(list)
	var want []impl.Loom
	wantCount, valid := 0, false
	if at := slices.IndexFunc(list, func(x impl.Loom) bool { return x.Id == id }); at >= 0 {
		var x impl.Loom
		if x, wantCount, valid = loomStepByRules(step, list[at], a, b); valid {
			want = slices.Clone(list)
			want[at] = x
		}
	}
	changed, count, ok := doLoomStep(step, list, id, a, b)
	if ok != valid || count != wantCount || !slices.Equal(changed, want) {
		t.Errorf("%s(%v, %d, %d, %d) = %v, %d, %v, not %v, %d, %v", step, list, id, a, b, changed, count, ok, want, wantCount, valid)
	}
	if ok && !impl.AreLooms(changed) {
		t.Errorf("%s(%v, %d, %d, %d) = %v, which is not valid", step, list, id, a, b, changed)
	}
	if !slices.Equal(list, given) {
		t.Fatalf("%s(%v, %d, %d, %d) has changed the list to %v", step, given, id, a, b, list)
	}
}

// Each step with each Loom of lists of all lengths, with numbers at the limits and far beyond them.
func TestLoomStepsByRules(t *testing.T) {
	numbers := []int{math.MinInt, -1, 0, 1, 2, 9, 10, 11, 49, 50, 53, 58, 120, 200, 201, 360, 361, 500, 501, 1440, 1441, 4000, 4001, math.MaxInt}
	for i, list := range mixedLooms() {
		ids := []int{math.MinInt, -1, 0, 1, 50, 99, 100, 1 << 32, math.MaxInt}
		for _, x := range list {
			ids = append(ids, x.Id, x.Id+1, x.Id+1<<32)
		}
		for _, step := range loomSteps {
			for _, id := range ids {
				for j, a := range numbers {
					checkLoomStep(t, step, list, id, a, numbers[(i*5+j*7)%len(numbers)])
				}
			}
		}
	}
}

func TestLoomStepsRefuseInvalidLists(t *testing.T) {
	for _, list := range invalidLoomLists() {
		for _, step := range loomSteps {
			for _, id := range []int{0, 1, 2, 3, 4, 11, 12, 13, 14, 99, 100} {
				for _, a := range []int{0, 1, 60, 100, 500} {
					if changed, count, ok := doLoomStep(step, list, id, a, 100); ok || count != 0 || len(changed) != 0 {
						t.Errorf("%s(%v, %d, %d, 100) = %v, %d, %v", step, list, id, a, changed, count, ok)
					}
				}
			}
		}
		for _, id := range []int{0, 1, 2, 3, 4, 11, 12, 13, 14, 99, 100} {
			if n, ok := impl.DaysLeft(list, id); ok || n != 0 {
				t.Errorf("DaysLeft(%v, %d) = %d, %v", list, id, n, ok)
			}
		}
		if id, ok := impl.WidestFree(list); ok || id != 0 {
			t.Errorf("WidestFree(%v) = %d, %v", list, id, ok)
		}
		if id, ok := impl.LoomFor(list, 30); ok || id != 0 {
			t.Errorf("LoomFor(%v, 30) = %d, %v", list, id, ok)
		}
	}
}

func TestWarpLoom(t *testing.T) {
	for _, c := range []struct {
		wide, warps, pull int
		valid             bool
	}{
		{120, 360, 200, true}, {30, 10, 50, true}, {30, 360, 500, true}, {600, 4000, 500, true}, {333, 3996, 50, true}, {334, 4000, 50, true},
		{30, 9, 50, false}, {30, 10, 49, false}, {30, 361, 500, false}, {30, 360, 501, false}, {600, 4001, 500, false}, {333, 3997, 50, false},
		{120, 0, 0, false}, {120, 360, 0, false}, {120, 0, 200, false}, {120, -360, 200, false}, {120, 360, -200, false},
		{120, math.MaxInt, 200, false}, {120, 360, math.MaxInt, false}, {120, math.MinInt, 200, false}, {120, 360, math.MinInt, false},
		{120, 1<<32 + 360, 200, false}, {120, 360, 1<<32 + 200, false},
	} {
		list := loomList(120, 1, c.wide, 0, 120, 0)
		changed, ok := impl.WarpLoom(list, 2, c.warps, c.pull)
		if !c.valid {
			if ok || len(changed) != 0 {
				t.Errorf("WarpLoom(%v, 2, %d, %d) = %v, %v", list, c.warps, c.pull, changed, ok)
			}
			continue
		}
		want := []impl.Loom{list[0], {Id: 2, Wide: c.wide, Warps: c.warps, Pull: c.pull, State: impl.LoomWarped}, list[2]}
		if !ok || !slices.Equal(changed, want) {
			t.Errorf("WarpLoom(%v, 2, %d, %d) = %v, %v", list, c.warps, c.pull, changed, ok)
		}
	}
}

// Each pull with which a Loom may be busy, and each number of days.
func TestWeaveDaysByDays(t *testing.T) {
	for pull := 50; pull <= 500; pull++ {
		list := []impl.Loom{{Id: 3, Wide: 300, Warps: 900, Pull: pull, State: impl.LoomBusy}, {Id: 4, Wide: 300, Warps: 900, Pull: pull, State: impl.LoomWarped}}
		for days := -1; days <= 201; days++ {
			checkLoomStep(t, "WeaveDays", list, 3, days, 0)
		}
		checkLoomStep(t, "WeaveDays", list, 4, 1, 0)
	}
}

// A Loom weaves for as many days as are left and no longer.
func TestLoomWeavesForTheDaysLeft(t *testing.T) {
	for pull := 50; pull <= 500; pull++ {
		list := []impl.Loom{{Id: 1, Wide: 30, Warps: 10, Pull: 500, State: impl.LoomBusy}, {Id: 9, Wide: 120, Warps: 360, Pull: pull, State: impl.LoomBusy}}
		left, ok := impl.DaysLeft(list, 9)
		if !ok || pull-3*left < 50 || pull-3*left-3 >= 50 {
			t.Fatalf("with a Pull of %d, %d days are left, %v", pull, left, ok)
		}
		for days := range left + 1 {
			after, woven, ok := impl.WeaveDays(list, 9, days)
			if !ok || woven != days || after[1].State != impl.LoomBusy || after[1].Pull != pull-3*days || after[0] != list[0] {
				t.Fatalf("%d days with a Pull of %d: %v, %d, %v", days, pull, after, woven, ok)
			}
			if rest, ok := impl.DaysLeft(after, 9); !ok || rest != left-days {
				t.Errorf("%d days are left of %d after %d, %v", rest, left, days, ok)
			}
		}
		for _, days := range []int{left + 1, left + 2, 200} {
			broken := impl.Loom{Id: 9, Wide: 120, Warps: 360, Pull: pull - 3*left, State: impl.LoomBroken}
			after, woven, ok := impl.WeaveDays(list, 9, days)
			if !ok || woven != left || after[1] != broken || after[0] != list[0] {
				t.Errorf("%d days with a Pull of %d: %v, %d, %v", days, pull, after, woven, ok)
			}
			if rest, ok := impl.DaysLeft(after, 9); ok || rest != 0 {
				t.Errorf("%d days are left of a broken Loom, %v", rest, ok)
			}
			if more, woven, ok := impl.WeaveDays(after, 9, 0); ok || woven != 0 || len(more) != 0 {
				t.Errorf("a broken Loom weaves: %v, %d, %v", more, woven, ok)
			}
		}
	}
}

// Weaving day by day comes to the same as weaving all days at once.
func TestWeaveDaysOneByOne(t *testing.T) {
	for _, pull := range []int{50, 51, 52, 53, 55, 56, 200, 499, 500} {
		list := []impl.Loom{{Id: 9, Wide: 120, Warps: 360, Pull: pull, State: impl.LoomBusy}}
		days := 0
		for list[0].State == impl.LoomBusy {
			next, woven, ok := impl.WeaveDays(list, 9, 1)
			if !ok || woven > 1 || (woven == 1) != (next[0].State == impl.LoomBusy) {
				t.Fatalf("a day of %v: %v, %d, %v", list, next, woven, ok)
			}
			days += woven
			list = next
		}
		first := []impl.Loom{{Id: 9, Wide: 120, Warps: 360, Pull: pull, State: impl.LoomBusy}}
		if after, woven, ok := impl.WeaveDays(first, 9, 200); !ok || woven != days || !slices.Equal(after, list) {
			t.Errorf("200 days with a Pull of %d: %v, %d, %v, not %v, %d", pull, after, woven, ok, list, days)
		}
	}
}

func TestWeaveDaysAtItsLimits(t *testing.T) {
	for _, c := range []struct{ pull, days, left, state, woven int }{
		// A Pull that is just enough for the days, and one day more.
		{50, 0, 50, 2, 0}, {50, 1, 50, 3, 0}, {52, 1, 52, 3, 0}, {53, 1, 50, 2, 1}, {53, 2, 50, 3, 1}, {55, 2, 52, 3, 1}, {56, 2, 50, 2, 2},
		{56, 3, 50, 3, 2}, {56, 200, 50, 3, 2}, {500, 150, 50, 2, 150}, {500, 151, 50, 3, 150}, {500, 200, 50, 3, 150}, {499, 149, 52, 2, 149}, {499, 150, 52, 3, 149},
	} {
		list := []impl.Loom{{Id: 1, Wide: 120, Warps: 360, Pull: c.pull, State: impl.LoomBusy}}
		want := impl.Loom{Id: 1, Wide: 120, Warps: 360, Pull: c.left, State: c.state}
		if after, woven, ok := impl.WeaveDays(list, 1, c.days); !ok || woven != c.woven || len(after) != 1 || after[0] != want {
			t.Errorf("%d days with a Pull of %d: %v, %d, %v", c.days, c.pull, after, woven, ok)
		}
	}
	list := loomList(120, 2, 120, 0, 120, 1, 120, 3)
	for _, days := range []int{math.MinInt, -1 << 32, -1, 201, 202, 1 << 32, math.MaxInt} {
		if after, woven, ok := impl.WeaveDays(list, 1, days); ok || woven != 0 || len(after) != 0 {
			t.Errorf("%d days: %v, %d, %v", days, after, woven, ok)
		}
	}
	for _, id := range []int{2, 3, 4, 5} {
		if after, woven, ok := impl.WeaveDays(list, id, 0); ok || woven != 0 || len(after) != 0 {
			t.Errorf("no days of %d: %v, %d, %v", id, after, woven, ok)
		}
	}
}

func TestTightenLoom(t *testing.T) {
	for _, state := range []int{impl.LoomWarped, impl.LoomBusy} {
		for own := 50; own <= 500; own += 9 {
			list := []impl.Loom{{Id: 7, Wide: 120, Warps: 360, Pull: own, State: state}}
			for pull := -1; pull <= 502; pull++ {
				checkLoomStep(t, "TightenLoom", list, 7, pull, 0)
			}
		}
	}
	list := loomList(120, 0, 120, 1, 120, 2, 120, 3)
	for _, pull := range []int{math.MinInt, -100, -1, 0, 49, 50, 501, 1<<32 + 100, math.MaxInt} {
		for _, id := range []int{2, 3} {
			if changed, ok := impl.TightenLoom(list, id, pull); ok || len(changed) != 0 {
				t.Errorf("TightenLoom(%v, %d, %d) = %v, %v", list, id, pull, changed, ok)
			}
		}
	}
	for _, id := range []int{1, 4} {
		if changed, ok := impl.TightenLoom(list, id, 100); ok || len(changed) != 0 {
			t.Errorf("TightenLoom(%v, %d, 100) = %v, %v", list, id, changed, ok)
		}
	}
}

func TestCutOff(t *testing.T) {
	for _, c := range []struct {
		x     impl.Loom
		warps int
		valid bool
	}{
		{impl.Loom{Id: 5, Wide: 30, Warps: 360, Pull: 500, State: impl.LoomWarped}, 360, true},
		{impl.Loom{Id: 5, Wide: 600, Warps: 10, Pull: 50, State: impl.LoomBusy}, 10, true},
		{impl.Loom{Id: 5, Wide: 600, Warps: 4000, Pull: 52, State: impl.LoomBroken}, 4000, true},
		// A broken one may have no Warps; it becomes empty all the same.
		{impl.Loom{Id: 5, Wide: 600, State: impl.LoomBroken}, 0, true},
		{impl.Loom{Id: 5, Wide: 600}, 0, false},
	} {
		list := []impl.Loom{loomAt(1, 120, impl.LoomBusy), c.x, loomAt(99, 120, impl.LoomBroken)}
		var want []impl.Loom
		if c.valid {
			want = []impl.Loom{list[0], {Id: 5, Wide: c.x.Wide}, list[2]}
		}
		if changed, warps, ok := impl.CutOff(list, 5); ok != c.valid || warps != c.warps || !slices.Equal(changed, want) {
			t.Errorf("CutOff(%v, 5) = %v, %d, %v", list, changed, warps, ok)
		}
	}
}

// One Loom goes through all of its states, and back to where it began.
func TestLoomGoesThroughItsStates(t *testing.T) {
	start := loomList(200, 0, 120, 0)
	list := start
	for _, c := range []struct {
		step        string
		a, b, count int
		want        impl.Loom
	}{
		{"WarpLoom", 360, 50, 0, impl.Loom{Id: 2, Wide: 120, Warps: 360, Pull: 50, State: impl.LoomWarped}},
		{"TightenLoom", 56, 0, 0, impl.Loom{Id: 2, Wide: 120, Warps: 360, Pull: 56, State: impl.LoomWarped}},
		{"BeginCarpet", 0, 0, 0, impl.Loom{Id: 2, Wide: 120, Warps: 360, Pull: 56, State: impl.LoomBusy}},
		{"WeaveDays", 2, 0, 2, impl.Loom{Id: 2, Wide: 120, Warps: 360, Pull: 50, State: impl.LoomBusy}},
		{"TightenLoom", 60, 0, 0, impl.Loom{Id: 2, Wide: 120, Warps: 360, Pull: 60, State: impl.LoomBusy}},
		{"WeaveDays", 9, 0, 3, impl.Loom{Id: 2, Wide: 120, Warps: 360, Pull: 51, State: impl.LoomBroken}},
		{"CutOff", 0, 0, 360, impl.Loom{Id: 2, Wide: 120}},
	} {
		next, count, ok := doLoomStep(c.step, list, 2, c.a, c.b)
		if !ok || count != c.count || !slices.Equal(next, []impl.Loom{start[0], c.want}) {
			t.Fatalf("%s(%v, 2, %d, %d) = %v, %d, %v", c.step, list, c.a, c.b, next, count, ok)
		}
		list = next
	}
}

func TestWidestFree(t *testing.T) {
	for _, c := range []struct {
		list []impl.Loom
		want int
	}{
		{loomList(120, 0, 300, 0, 200, 0), 2},
		{loomList(120, 0, 300, 1, 200, 2, 600, 3), 1},
		{loomList(120, 1, 300, 1, 200, 2, 30, 0), 4},
		{loomList(120, 0, 120, 0), 1},
		{loomList(30, 0, 120, 0, 60, 0, 120, 0, 120, 2), 2},
		{loomList(30, 0), 1}, {loomList(600, 0), 1},
		{loomList(600, 1), 0}, {loomList(600, 2), 0}, {loomList(600, 3), 0}, {loomList(600, 1, 600, 2, 600, 3), 0},
		{nil, 0}, {[]impl.Loom{}, 0},
	} {
		if id, ok := impl.WidestFree(c.list); ok != (c.want > 0) || id != c.want {
			t.Errorf("WidestFree(%v) = %d, %v", c.list, id, ok)
		}
	}
}

func TestLoomFor(t *testing.T) {
	for _, c := range []struct {
		list       []impl.Loom
		wide, want int
	}{
		{loomList(120, 0, 300, 0, 200, 0), 100, 1},
		{loomList(120, 0, 300, 0, 200, 0), 120, 1},
		{loomList(120, 0, 300, 0, 200, 0), 121, 3},
		{loomList(120, 0, 300, 0, 200, 0), 201, 2},
		{loomList(120, 0, 300, 0, 200, 0), 300, 2},
		{loomList(120, 0, 300, 0, 200, 0), 301, 0},
		{loomList(120, 1, 120, 2, 120, 3, 600, 0), 120, 4},
		{loomList(120, 1, 120, 2, 120, 3), 120, 0},
		{loomList(200, 0, 120, 0, 120, 0), 30, 2},
		{loomList(200, 0, 200, 0, 120, 0), 150, 1},
		{loomList(30, 0, 600, 0), 30, 1}, {loomList(30, 0, 600, 0), 31, 2}, {loomList(30, 0, 600, 0), 600, 2}, {loomList(30, 0, 599, 0), 600, 0},
		// Other widths than those of a Loom are not valid, even if a Loom has more.
		{loomList(30, 0, 600, 0), 29, 0}, {loomList(30, 0, 600, 0), 601, 0}, {loomList(30, 0, 600, 0), 0, 0}, {loomList(30, 0, 600, 0), -1, 0},
		{loomList(30, 0, 600, 0), math.MinInt, 0}, {loomList(30, 0, 600, 0), math.MaxInt, 0}, {loomList(30, 0, 600, 0), 1<<32 + 30, 0},
		{nil, 30, 0}, {[]impl.Loom{}, 600, 0}, {nil, 29, 0},
	} {
		if id, ok := impl.LoomFor(c.list, c.wide); ok != (c.want > 0) || id != c.want {
			t.Errorf("LoomFor(%v, %d) = %d, %v", c.list, c.wide, id, ok)
		}
	}
}

// freeByWidth looks for an empty Loom at each width in turn, and there at each Id.
func freeByWidth(list []impl.Loom, from, to, step int) int {
	for wide := from; wide != to+step; wide += step {
		for id := 1; id <= 99; id++ {
			for _, x := range list {
				if x.Id == id && x.Wide == wide && x.State == impl.LoomEmpty {
					return id
				}
			}
		}
	}
	return 0
}

func TestFreeLoomsByWidth(t *testing.T) {
	found := 0
	for _, list := range mixedLooms() {
		given := slices.Clone(list)
		want := freeByWidth(list, 600, 30, -1)
		if id, ok := impl.WidestFree(list); id != want || ok != (want > 0) {
			t.Errorf("WidestFree(%v) = %d, %v, not %d", list, id, ok, want)
		}
		for _, wide := range []int{30, 31, 32, 119, 120, 121, 122, 334, 335, 599, 600} {
			want := freeByWidth(list, wide, 600, 1)
			found += want
			if id, ok := impl.LoomFor(list, wide); id != want || ok != (want > 0) {
				t.Errorf("LoomFor(%v, %d) = %d, %v, not %d", list, wide, id, ok, want)
			}
		}
		if !slices.Equal(list, given) {
			t.Errorf("%v has become %v", given, list)
		}
	}
	if found == 0 {
		t.Error("no Loom is empty")
	}
}

func TestDaysLeft(t *testing.T) {
	for pull, want := range map[int]int{50: 0, 51: 0, 52: 0, 53: 1, 55: 1, 56: 2, 199: 49, 200: 50, 499: 149, 500: 150} {
		list := []impl.Loom{{Id: 1, Wide: 120, Warps: 360, Pull: 499, State: impl.LoomWarped}, {Id: 9, Wide: 120, Warps: 360, Pull: pull, State: impl.LoomBusy}, {Id: 99, Wide: 120, Warps: 360, Pull: 70, State: impl.LoomBroken}, {}}[:3]
		if n, ok := impl.DaysLeft(list, 9); !ok || n != want {
			t.Errorf("DaysLeft(%v, 9) = %d, %v", list, n, ok)
		}
	}
	list := loomList(120, 0, 120, 1, 120, 3, 120, 2)
	list[3].Pull = 60
	for _, id := range append(oddNumbers(), 99, 100, 1<<32+4) {
		if n, ok := impl.DaysLeft(list, id); ok || n != 0 {
			t.Errorf("DaysLeft(%v, %d) = %d, %v", list, id, n, ok)
		}
	}
	if n, ok := impl.DaysLeft(list, 4); !ok || n != 3 {
		t.Error("left of the last Loom", n, ok)
	}
	if n, ok := impl.DaysLeft(nil, 1); ok || n != 0 {
		t.Error("left of no Loom", n, ok)
	}
}

// loomResults calls each function that returns a list, so that it succeeds, for a list of an empty, a warped and a busy Loom.
func loomResults(list []impl.Loom) [][]impl.Loom {
	warped, _ := impl.WarpLoom(list, 1, 10, 50)
	begun, _ := impl.BeginCarpet(list, 2)
	kept, _, _ := impl.WeaveDays(list, 3, 0)
	woven, _, _ := impl.WeaveDays(list, 3, 200)
	tight, _ := impl.TightenLoom(list, 2, list[1].Pull)
	tighter, _ := impl.TightenLoom(list, 3, 500)
	cut, _, _ := impl.CutOff(list, 3)
	return [][]impl.Loom{warped, begun, kept, woven, tight, tighter, cut}
}

// Whatever is written to one result, over all of its memory, neither another one nor the argument changes.
func TestLoomResultsAreSeparate(t *testing.T) {
	long := loomList(120, 0, 120, 1, 120, 2, 120, 0, 120, 0)
	given := slices.Clone(long)
	list := long[:3]
	results := append(loomResults(list), loomResults(list)...)
	for i, looms := range results {
		if len(looms) != 3 {
			t.Fatalf("result %d is %v", i, looms)
		}
	}
	checkSeparate(t, results, impl.Loom{Id: -1})
	if !slices.Equal(long, given) {
		t.Errorf("%v has become %v", given, long)
	}
}

// Each function returns for odd numbers and odd lists, changes none, and does the same at each call.
func TestLoomFunctionsAreTotal(t *testing.T) {
	for _, list := range append(invalidLoomLists(), nil, loomList(120, 0, 120, 1, 120, 2, 120, 3)) {
		given := slices.Clone(list)
		for _, a := range oddNumbers() {
			for _, id := range oddNumbers() {
				for _, step := range loomSteps {
					changed, count, ok := doLoomStep(step, list, id, a, id)
					if again, same, fine := doLoomStep(step, list, id, a, id); !slices.Equal(again, changed) || same != count || fine != ok {
						t.Errorf("%s(%v, %d, %d, %d) differs from call to call", step, list, id, a, id)
					}
				}
			}
			id, ok := impl.LoomFor(list, a)
			if again, fine := impl.LoomFor(list, a); again != id || fine != ok {
				t.Errorf("LoomFor(%v, %d) differs from call to call", list, a)
			}
			n, ok := impl.DaysLeft(list, a)
			if again, fine := impl.DaysLeft(list, a); again != n || fine != ok {
				t.Errorf("DaysLeft(%v, %d) differs from call to call", list, a)
			}
		}
		if !slices.Equal(list, given) {
			t.Errorf("%v has become %v", given, list)
		}
	}
}

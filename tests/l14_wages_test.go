package tests

import (
	"fmt"
	"math"
	"math/big"
	"slices"
	"testing"

	"loop.example/g01023/impl"
)

// workSheet returns a WorkSheet with its numbers in their order.
func workSheet(weaver, day, knots, wrong, hours int) impl.WorkSheet {
	return impl.WorkSheet{Weaver: weaver, Day: day, Knots: knots, Wrong: wrong, Hours: hours}
}

// ratesOf returns Rates with their numbers in their order.
func ratesOf(thousand, hour, least, bonus, fine int) impl.Rates {
	return impl.Rates{Thousand: thousand, Hour: hour, Least: least, Bonus: bonus, Fine: fine}
}

// someRates returns Rates with numbers at the limits and between.
func someRates() []impl.Rates {
	rates := []impl.Rates{
		{}, ratesOf(250, 900, 1000, 500, 100), ratesOf(10000, 10000, 10000, 10000, 10000), ratesOf(10000, 0, 0, 0, 0), ratesOf(0, 10000, 0, 0, 0),
		ratesOf(0, 0, 10000, 0, 0), ratesOf(0, 0, 0, 10000, 0), ratesOf(0, 0, 0, 0, 10000), ratesOf(1, 0, 0, 0, 0), ratesOf(1, 0, 5, 1, 1),
		ratesOf(1, 1, 0, 1, 1), ratesOf(999, 7, 0, 1, 3), ratesOf(1000, 0, 0, 10000, 0), ratesOf(1001, 0, 8008, 1, 0), ratesOf(1000, 0, 8000, 0, 0),
		ratesOf(250, 0, 2500, 500, 100), ratesOf(250, 0, 2499, 500, 100), ratesOf(250, 0, 2501, 500, 100), ratesOf(10000, 0, 1, 10000, 10000),
	}
	next := dyeNumbers(14)
	for range 12 {
		rates = append(rates, ratesOf(next(10001), next(10001), next(10001), next(10001), next(10001)), ratesOf(next(400), next(1000), next(3000), next(1000), next(200)))
	}
	return rates
}

// knotsOfSheets are numbers of Knots, and of right and wrong ones, at which a wage changes its rule, and those next to them.
var knotsOfSheets = []int{0, 1, 3, 4, 50, 99, 100, 101, 199, 200, 201, 999, 1000, 1001, 3999, 4000, 4001, 7899, 7900, 7901, 7999, 8000, 8001, 8099, 8100, 8101, 11899, 11900, 11999, 12000}

// mixedSheets returns sheets of all lengths, with equal Days, equal Weavers, and equal shares of wrong knots.
func mixedSheets() [][]impl.WorkSheet {
	next := dyeNumbers(141)
	lists := [][]impl.WorkSheet{nil, {}, {workSheet(1, 0, 0, 0, 0)}, {workSheet(99, 4000, 12000, 12000, 12)}, {workSheet(99, 4000, 12000, 0, 12)}}
	for length := 1; length <= 12; length++ {
		for seed := range 40 {
			weavers := [][]int{{1, 2}, {7, 50, 98, 99}, {1, 3, 5, 9, 10, 42}, {99}, {1, 2, 3, 4, 5, 6, 7, 8, 9, 10, 11, 12}}[seed%5]
			day, turn := []int{0, 10, 3900}[seed%3], 0
			var list []impl.WorkSheet
			for len(list) < length {
				turn += 1 + next(3)
				if turn > len(weavers) {
					day, turn = day+1+next(4), 1
				}
				knots := knotsOfSheets[next(len(knotsOfSheets))]
				wrong := []int{0, knots, knots / 2, knots / 4, next(knots + 1), max(knots-8000, 0), min(knots, max(knots-7999, 0))}[next(7)]
				list = append(list, workSheet(weavers[turn-1], day, knots, wrong, next(13)))
			}
			lists = append(lists, list)
		}
	}
	return lists
}

// isSheetByRules tells from the rules of the document whether a WorkSheet is valid.
func isSheetByRules(s impl.WorkSheet) bool {
	return s.Weaver >= 1 && s.Weaver <= 99 && s.Day >= 0 && s.Day <= 4000 && s.Knots >= 0 && s.Knots <= 12000 && s.Wrong >= 0 && s.Wrong <= s.Knots && s.Hours >= 0 && s.Hours <= 12
}

// areRatesByRules tells from the rules of the document whether Rates are valid.
func areRatesByRules(r impl.Rates) bool {
	list := []int{r.Thousand, r.Hour, r.Least, r.Bonus, r.Fine}
	return slices.Min(list) >= 0 && slices.Max(list) <= 10000
}

// wageNumbers returns numbers about the limits of sheets and Rates, and of int.
func wageNumbers() []int {
	return append(oddNumbers(), 12, 13, 98, 99, 100, 3999, 4000, 4001, 8000, 9999, 10000, 10001, 11999, 12000, 12001, 1<<32+1, -1<<32+1)
}

// invalidSheets returns WorkSheets of which one number, or each, is not valid.
func invalidSheets() []impl.WorkSheet {
	sheets := []impl.WorkSheet{{}, {Day: 10, Knots: 100}, workSheet(1, 10, 99, 100, 0), workSheet(1, 10, 0, 1, 0), workSheet(1, 10, -1, -1, 0), workSheet(1, 10, 12001, 12001, 0)}
	for _, n := range wageNumbers() {
		for _, s := range []impl.WorkSheet{workSheet(n, 10, 8100, 50, 2), workSheet(1, n, 8100, 50, 2), workSheet(1, 10, n, 0, 2), workSheet(1, 10, n, n, 2), workSheet(1, 10, 8100, n, 2), workSheet(1, 10, 8100, 50, n), workSheet(n, n, n, n, n)} {
			if !isSheetByRules(s) {
				sheets = append(sheets, s)
			}
		}
	}
	return sheets
}

// invalidRates returns Rates of which one number, or each, is not valid.
func invalidRates() []impl.Rates {
	var rates []impl.Rates
	for _, n := range wageNumbers() {
		for _, r := range []impl.Rates{ratesOf(n, 900, 1000, 500, 100), ratesOf(250, n, 1000, 500, 100), ratesOf(250, 900, n, 500, 100), ratesOf(250, 900, 1000, n, 100), ratesOf(250, 900, 1000, 500, n), ratesOf(n, n, n, n, n)} {
			if !areRatesByRules(r) {
				rates = append(rates, r)
			}
		}
	}
	return rates
}

// daysOf returns as many sheets of the Weaver 1, one a Day.
func daysOf(length int) []impl.WorkSheet {
	var list []impl.WorkSheet
	for day := range length {
		list = append(list, workSheet(1, day, 8100, 200, 1))
	}
	return list
}

// invalidSheetLists returns lists that are no sheets; most of them hold sheets of the Weaver 1 that miss the Bonus.
func invalidSheetLists() [][]impl.WorkSheet {
	a, b, c := workSheet(1, 10, 8100, 200, 1), workSheet(2, 10, 8100, 200, 1), workSheet(1, 11, 8100, 200, 1)
	lists := [][]impl.WorkSheet{
		{b, a}, {c, a}, {c, b}, {a, a}, {a, c, b}, {b, a, c}, {c, b, a}, {a, b, b, c}, {a, b, c, c}, {a, b, c, a},
		{a, workSheet(1, 10, 500, 0, 0)}, {workSheet(99, 10, 8100, 200, 0), workSheet(1, 10, 8100, 200, 0)}, {workSheet(1, 4000, 8100, 200, 0), workSheet(99, 0, 8100, 200, 0)},
		daysOf(13), daysOf(14), daysOf(4000), slices.Repeat([]impl.WorkSheet{a}, 12),
	}
	for _, s := range invalidSheets() {
		first, last := s, s
		if isSheetByRules(workSheet(1, s.Day, 0, 0, 0)) {
			first.Day, last.Day = 0, 4000
		}
		lists = append(lists, []impl.WorkSheet{s}, []impl.WorkSheet{first, a, b, c}, []impl.WorkSheet{a, b, c, last})
	}
	return lists
}

// wageByParts adds up a wage from its parts, a thousand, an hour and a hundred at a time.
func wageByParts(r impl.Rates, s impl.WorkSheet) int {
	cents, rest := 0, s.Knots-s.Wrong
	for rest >= 1000 {
		cents, rest = cents+r.Thousand, rest-1000
	}
	cents += rest * r.Thousand / 1000
	for range s.Hours {
		cents += r.Hour
	}
	if s.Wrong <= s.Knots-8000 {
		cents += r.Bonus
	}
	for hundred := 100; hundred <= s.Wrong; hundred += 100 {
		cents -= r.Fine
	}
	if cents < r.Least {
		return r.Least
	}
	return cents
}

// wagesByParts adds up the wages of a Weaver on some days.
func wagesByParts(r impl.Rates, list []impl.WorkSheet, weaver, from, to int) int {
	cents := 0
	for _, s := range list {
		if s.Weaver == weaver && s.Day >= from && s.Day <= to {
			cents += wageByParts(r, s)
		}
	}
	return cents
}

// hasSheet tells whether a Weaver has a sheet.
func hasSheet(list []impl.WorkSheet, weaver int) bool {
	return slices.ContainsFunc(list, func(s impl.WorkSheet) bool { return s.Weaver == weaver })
}

// sheetWeavers returns the Weavers with a sheet, in ascending order.
func sheetWeavers(list []impl.WorkSheet) []int {
	var weavers []int
	for weaver := 1; weaver <= 99; weaver++ {
		if hasSheet(list, weaver) {
			weavers = append(weavers, weaver)
		}
	}
	return weavers
}

func TestWageConstants(t *testing.T) {
	if impl.MaxSheets != 12 {
		t.Error("limit", impl.MaxSheets)
	}
}

func TestIsWorkSheet(t *testing.T) {
	for _, s := range []impl.WorkSheet{
		workSheet(1, 10, 8100, 50, 0), workSheet(1, 0, 0, 0, 0), workSheet(99, 4000, 12000, 12000, 12), workSheet(50, 2000, 12000, 0, 12), workSheet(1, 0, 1, 1, 0), workSheet(1, 0, 1, 0, 1), {Weaver: 1},
	} {
		if !impl.IsWorkSheet(s) {
			t.Errorf("%v is no WorkSheet", s)
		}
	}
	for _, s := range append(invalidSheets(),
		workSheet(0, 0, 0, 0, 0), workSheet(100, 4000, 12000, 12000, 12), workSheet(1, -1, 0, 0, 0), workSheet(99, 4001, 12000, 12000, 12), workSheet(1, 0, -1, 0, 0), workSheet(99, 4000, 12001, 12000, 12),
		workSheet(1, 0, 0, -1, 0), workSheet(99, 4000, 11999, 12000, 12), workSheet(1, 0, 0, 1, 0), workSheet(1, 0, 0, 0, -1), workSheet(99, 4000, 12000, 12000, 13),
	) {
		if impl.IsWorkSheet(s) {
			t.Errorf("%v is a WorkSheet", s)
		}
	}
	numbers := wageNumbers()
	for i, weaver := range numbers {
		for j, knots := range numbers {
			for k, wrong := range numbers {
				for _, hours := range []int{-1, 0, 12, 13} {
					s := workSheet(weaver, numbers[(i+j*3+k*5)%len(numbers)], knots, wrong, hours)
					if impl.IsWorkSheet(s) != isSheetByRules(s) {
						t.Fatalf("IsWorkSheet(%v) = %v", s, impl.IsWorkSheet(s))
					}
				}
			}
		}
	}
}

func TestAreSheets(t *testing.T) {
	for _, list := range append(mixedSheets(),
		daysOf(11), daysOf(12), daysOf(13)[1:],
		[]impl.WorkSheet{workSheet(1, 10, 0, 0, 0), workSheet(2, 10, 0, 0, 0)}, []impl.WorkSheet{workSheet(98, 4000, 0, 0, 0), workSheet(99, 4000, 0, 0, 0)},
		// A later Day comes after an earlier one, whatever the Weavers are.
		[]impl.WorkSheet{workSheet(99, 0, 12000, 0, 12), workSheet(1, 1, 0, 0, 0)}, []impl.WorkSheet{workSheet(1, 0, 0, 0, 0), workSheet(1, 4000, 0, 0, 0)},
	) {
		if !impl.AreSheets(list) {
			t.Errorf("%v are no sheets", list)
		}
	}
	for _, list := range invalidSheetLists() {
		if impl.AreSheets(list) {
			t.Errorf("%v are sheets", list)
		}
	}
}

// All lists of three sheets of three Weavers on three Days.
func TestAreSheetsInEachOrder(t *testing.T) {
	valid := 0
	for way := range 9 * 9 * 9 {
		places := []int{way % 9, way / 9 % 9, way / 81}
		var list []impl.WorkSheet
		for _, place := range places {
			list = append(list, workSheet(place%3+1, place/3, 12000-place*1000, place*500, 12-place))
		}
		want := places[0] < places[1] && places[1] < places[2]
		if impl.AreSheets(list) != want {
			t.Fatalf("AreSheets(%v) = %v", list, !want)
		}
		if want {
			valid++
		}
	}
	if valid != 84 {
		t.Errorf("%d ways are valid", valid)
	}
}

func TestAreRates(t *testing.T) {
	for _, r := range someRates() {
		if !impl.AreRates(r) {
			t.Errorf("%v are no Rates", r)
		}
	}
	for _, r := range invalidRates() {
		if impl.AreRates(r) {
			t.Errorf("%v are Rates", r)
		}
	}
	edges := []int{-1, 0, 10000, 10001}
	for way := range 1 << 10 {
		r := ratesOf(edges[way&3], edges[way>>2&3], edges[way>>4&3], edges[way>>6&3], edges[way>>8])
		if impl.AreRates(r) != areRatesByRules(r) {
			t.Errorf("AreRates(%v) = %v", r, impl.AreRates(r))
		}
	}
}

func TestWageOf(t *testing.T) {
	r := ratesOf(250, 900, 1000, 500, 100)
	for _, c := range []struct {
		r                          impl.Rates
		knots, wrong, hours, wants int
	}{
		{r, 8100, 50, 0, 2512}, {r, 500, 250, 0, 1000}, {r, 7999, 0, 2, 3799},
		// The Bonus is for right knots, and 8000 of them are enough.
		{r, 7999, 0, 0, 1999}, {r, 8000, 0, 0, 2500}, {r, 8001, 0, 0, 2500}, {r, 8000, 1, 0, 1999}, {r, 8001, 1, 0, 2500}, {r, 8001, 2, 0, 1999},
		{r, 12000, 0, 0, 3500}, {r, 12000, 4000, 0, 1000}, {r, 12000, 4001, 0, 1000}, {ratesOf(0, 0, 0, 500, 0), 12000, 4000, 0, 500}, {ratesOf(0, 0, 0, 500, 0), 12000, 4001, 0, 0},
		{ratesOf(0, 0, 0, 1, 0), 8000, 0, 0, 1}, {ratesOf(0, 0, 0, 1, 0), 7999, 0, 0, 0}, {ratesOf(0, 0, 0, 1, 0), 8000, 1, 0, 0},
		// A hundred wrong ones that is not full costs nothing.
		{r, 8099, 99, 0, 2500}, {r, 8100, 100, 0, 2400}, {r, 8199, 199, 0, 2400}, {r, 8200, 200, 0, 2300}, {r, 8299, 299, 0, 2300},
		// Of a thousand that is not full the part is paid, and of a cent nothing.
		{ratesOf(1, 0, 0, 0, 0), 999, 0, 0, 0}, {ratesOf(1, 0, 0, 0, 0), 1000, 0, 0, 1}, {ratesOf(1, 0, 0, 0, 0), 1999, 0, 0, 1}, {ratesOf(999, 0, 0, 0, 0), 1, 0, 0, 0}, {ratesOf(999, 0, 0, 0, 0), 2, 0, 0, 1},
		{ratesOf(1000, 0, 0, 0, 0), 1, 0, 0, 1}, {ratesOf(1000, 0, 0, 0, 0), 1, 1, 0, 0}, {ratesOf(250, 0, 0, 0, 0), 3, 0, 0, 0}, {ratesOf(250, 0, 0, 0, 0), 4, 0, 0, 1}, {ratesOf(250, 0, 0, 0, 0), 12000, 11997, 0, 0},
		// Fines of just the pay, and above it.
		{ratesOf(1000, 0, 0, 0, 100), 200, 100, 0, 0}, {ratesOf(1000, 0, 0, 0, 100), 201, 100, 0, 1}, {ratesOf(1000, 0, 0, 0, 100), 199, 100, 0, 0}, {ratesOf(1000, 0, 0, 0, 101), 200, 100, 0, 0},
		{ratesOf(0, 0, 0, 0, 10000), 12000, 12000, 0, 0}, {ratesOf(0, 0, 1, 0, 10000), 12000, 12000, 12, 1}, {ratesOf(0, 10000, 0, 0, 10000), 1200, 1200, 12, 0}, {ratesOf(0, 10000, 0, 0, 10000), 1199, 1199, 12, 10000},
		{ratesOf(0, 0, 0, 10000, 250), 12000, 4000, 0, 0}, {ratesOf(0, 0, 0, 10000, 249), 12000, 4000, 0, 40}, {ratesOf(0, 0, 0, 10000, 251), 12000, 4000, 0, 0},
		// The Least is paid instead of less, not in addition.
		{ratesOf(0, 0, 1000, 0, 0), 0, 0, 0, 1000}, {ratesOf(1000, 0, 1000, 0, 0), 999, 0, 0, 1000}, {ratesOf(1000, 0, 1000, 0, 0), 1000, 0, 0, 1000}, {ratesOf(1000, 0, 1000, 0, 0), 1001, 0, 0, 1001},
		{ratesOf(0, 900, 1000, 0, 0), 0, 0, 1, 1000}, {ratesOf(0, 900, 1000, 0, 0), 0, 0, 2, 1800}, {ratesOf(0, 0, 500, 500, 0), 8000, 0, 0, 500}, {ratesOf(0, 0, 499, 500, 0), 8000, 0, 0, 500}, {ratesOf(0, 0, 501, 500, 0), 8000, 0, 0, 501},
		{impl.Rates{}, 12000, 0, 12, 0}, {ratesOf(10000, 10000, 10000, 10000, 10000), 12000, 0, 12, 250000}, {ratesOf(10000, 10000, 10000, 10000, 10000), 0, 0, 0, 10000},
	} {
		for _, place := range [][2]int{{1, 0}, {99, 4000}, {7, 365}} {
			s := workSheet(place[0], place[1], c.knots, c.wrong, c.hours)
			if cents, ok := impl.WageOf(c.r, s); !ok || cents != c.wants {
				t.Errorf("WageOf(%v, %v) = %d, %v, not %d", c.r, s, cents, ok, c.wants)
			}
		}
	}
}

func TestWageOfByParts(t *testing.T) {
	for _, r := range someRates() {
		least, bonus, fined := false, false, false
		for _, right := range knotsOfSheets {
			for _, wrong := range knotsOfSheets {
				if right+wrong > 12000 {
					continue
				}
				for _, hours := range []int{0, 1, 2, 11, 12} {
					s := workSheet(wrong%99+1, right%4001, right+wrong, wrong, hours)
					cents, ok := impl.WageOf(r, s)
					if want := wageByParts(r, s); !ok || cents != want {
						t.Fatalf("WageOf(%v, %v) = %d, %v, not %d", r, s, cents, ok, want)
					}
					least, bonus, fined = least || cents == r.Least, bonus || right >= 8000, fined || wrong >= 100
				}
			}
		}
		if !bonus || !fined || !least && r.Thousand < 1000 {
			t.Errorf("for %v something does not occur", r)
		}
	}
}

// Whatever the Fines are, a wage is not less than the Least, and more hours or right knots never lower it.
func TestWagesGrow(t *testing.T) {
	for _, r := range someRates() {
		for _, wrong := range []int{0, 99, 100, 1234, 12000} {
			last := 0
			for knots := wrong; knots <= 12000; knots += 1 + knots%2*2 {
				cents, ok := impl.WageOf(r, workSheet(1, 0, knots, wrong, 3))
				more, fine := impl.WageOf(r, workSheet(1, 0, knots, wrong, 4))
				if !ok || !fine || cents < r.Least || cents < last || more < cents || more > cents+r.Hour {
					t.Fatalf("for %v, %d knots and %d wrong ones there are %d cents after %d, and %d for an hour more", r, knots, wrong, cents, last, more)
				}
				last = cents
			}
		}
	}
}

func TestWagesBetween(t *testing.T) {
	r := ratesOf(250, 900, 1000, 500, 100)
	// The wages are 2512, 1000, 3799 and 11800.
	list := []impl.WorkSheet{workSheet(1, 10, 8100, 50, 0), workSheet(2, 10, 500, 250, 0), workSheet(1, 11, 7999, 0, 2), workSheet(1, 20, 4000, 0, 12)}
	for _, c := range []struct{ weaver, from, to, want int }{
		{1, 11, 20, 15599}, {1, 10, 11, 6311}, {1, 10, 20, 18111}, {1, 0, 4000, 18111}, {1, 10, 10, 2512}, {1, 11, 11, 3799}, {1, 20, 20, 11800}, {1, 11, 19, 3799}, {1, 12, 19, 0}, {1, 12, 20, 11800},
		{1, 0, 9, 0}, {1, 0, 10, 2512}, {1, 21, 4000, 0}, {1, 9, 9, 0}, {1, 0, 0, 0}, {1, 4000, 4000, 0}, {2, 0, 4000, 1000}, {2, 10, 10, 1000}, {2, 11, 20, 0}, {3, 0, 4000, 0}, {99, 10, 20, 0},
	} {
		if cents, ok := impl.WagesBetween(r, list, c.weaver, c.from, c.to); !ok || cents != c.want {
			t.Errorf("WagesBetween(%v, %v, %d, %d, %d) = %d, %v, not %d", r, list, c.weaver, c.from, c.to, cents, ok, c.want)
		}
	}
	for _, empty := range [][]impl.WorkSheet{nil, {}} {
		if cents, ok := impl.WagesBetween(r, empty, 1, 0, 4000); !ok || cents != 0 {
			t.Error("wages without sheets", cents, ok)
		}
	}
	edges := []impl.WorkSheet{workSheet(99, 0, 8000, 0, 0), workSheet(99, 4000, 0, 0, 12)}
	for _, c := range []struct{ from, to, want int }{{0, 0, 2500}, {4000, 4000, 10800}, {0, 4000, 13300}, {0, 3999, 2500}, {1, 4000, 10800}, {1, 3999, 0}} {
		if cents, ok := impl.WagesBetween(r, edges, 99, c.from, c.to); !ok || cents != c.want {
			t.Errorf("WagesBetween on the days %d..%d = %d, %v", c.from, c.to, cents, ok)
		}
	}
}

func TestWagesBetweenByParts(t *testing.T) {
	rates := someRates()
	for i, list := range mixedSheets() {
		r := rates[i%len(rates)]
		days := []int{0, 4000}
		for _, s := range list {
			days = append(days, max(s.Day-1, 0), s.Day, min(s.Day+1, 4000))
		}
		slices.Sort(days)
		days = slices.Compact(days)
		for _, weaver := range append(sheetWeavers(list), 1, 6, 99) {
			for _, from := range days {
				for _, to := range days {
					cents, ok := impl.WagesBetween(r, list, weaver, from, to)
					if want := wagesByParts(r, list, weaver, from, to); ok != (from <= to) || cents != want {
						t.Fatalf("WagesBetween(%v, %v, %d, %d, %d) = %d, %v, not %d", r, list, weaver, from, to, cents, ok, want)
					}
				}
			}
		}
	}
}

func TestWagesNeedAWeaverAndDays(t *testing.T) {
	r := ratesOf(250, 900, 1000, 500, 100)
	for _, list := range append(mixedSheets()[:60], daysOf(12)) {
		for _, n := range wageNumbers() {
			if cents, ok := impl.WagesBetween(r, list, n, 0, 4000); ok != (n >= 1 && n <= 99) || !ok && cents != 0 {
				t.Errorf("WagesBetween(%v, %v, %d, 0, 4000) = %d, %v", r, list, n, cents, ok)
			}
			for _, m := range wageNumbers() {
				valid := n >= 0 && n <= m && m <= 4000
				if cents, ok := impl.WagesBetween(r, list, 1, n, m); ok != valid || !ok && cents != 0 {
					t.Errorf("WagesBetween(%v, %v, 1, %d, %d) = %d, %v", r, list, n, m, cents, ok)
				}
			}
		}
	}
}

func TestPayRoll(t *testing.T) {
	r := ratesOf(250, 900, 1000, 500, 100)
	for _, c := range []struct {
		list           []impl.WorkSheet
		weavers, wages []int
	}{
		{[]impl.WorkSheet{workSheet(1, 10, 8100, 50, 0), workSheet(2, 10, 500, 250, 0), workSheet(1, 11, 7999, 0, 2)}, []int{1, 2}, []int{6311, 1000}},
		// The order of the Weavers is not that of their sheets.
		{[]impl.WorkSheet{workSheet(99, 0, 8000, 0, 0), workSheet(1, 1, 0, 0, 12), workSheet(50, 2, 0, 0, 0), workSheet(99, 3, 0, 0, 0)}, []int{1, 50, 99}, []int{10800, 1000, 3500}},
		// The Least is for a sheet, not for a Weaver.
		{[]impl.WorkSheet{workSheet(5, 0, 0, 0, 0), workSheet(5, 1, 0, 0, 0), workSheet(5, 2, 8000, 0, 0)}, []int{5}, []int{4500}},
		// The Bonus and the Fines are, too.
		{[]impl.WorkSheet{workSheet(5, 0, 7000, 0, 0), workSheet(5, 1, 7000, 0, 0)}, []int{5}, []int{3500}},
		{[]impl.WorkSheet{workSheet(5, 0, 6099, 99, 0), workSheet(5, 1, 6099, 99, 0)}, []int{5}, []int{3000}},
		{[]impl.WorkSheet{workSheet(5, 0, 4003, 0, 0), workSheet(5, 1, 4003, 0, 0)}, []int{5}, []int{2000}},
		{nil, nil, nil}, {[]impl.WorkSheet{}, nil, nil},
	} {
		if weavers, wages, ok := impl.PayRoll(r, c.list); !ok || !slices.Equal(weavers, c.weavers) || !slices.Equal(wages, c.wages) {
			t.Errorf("PayRoll(%v, %v) = %v, %v, %v", r, c.list, weavers, wages, ok)
		}
	}
	rates := someRates()
	for i, list := range mixedSheets() {
		for j := range 4 {
			r := rates[(i+j*7)%len(rates)]
			var want []int
			for _, weaver := range sheetWeavers(list) {
				want = append(want, wagesByParts(r, list, weaver, 0, 4000))
			}
			weavers, wages, ok := impl.PayRoll(r, list)
			if !ok || !slices.Equal(weavers, sheetWeavers(list)) || !slices.Equal(wages, want) {
				t.Errorf("PayRoll(%v, %v) = %v, %v, %v, not %v", r, list, weavers, wages, ok, want)
			}
		}
	}
}

func TestCarefulWeavers(t *testing.T) {
	for _, c := range []struct {
		list []impl.WorkSheet
		want []int
	}{
		{[]impl.WorkSheet{workSheet(1, 10, 8100, 50, 0), workSheet(2, 10, 500, 250, 0), workSheet(1, 11, 7999, 0, 2)}, []int{1, 2}},
		{[]impl.WorkSheet{workSheet(1, 0, 100, 2, 0), workSheet(2, 0, 100, 1, 0)}, []int{2, 1}},
		// The share counts, not the number.
		{[]impl.WorkSheet{workSheet(1, 0, 10, 1, 0), workSheet(2, 0, 12000, 1199, 0), workSheet(3, 0, 12000, 1201, 0)}, []int{2, 1, 3}},
		// Equal shares of different numbers.
		{[]impl.WorkSheet{workSheet(3, 0, 12000, 4000, 0), workSheet(9, 0, 3, 1, 0), workSheet(1, 1, 6, 2, 0), workSheet(2, 1, 3000, 999, 0)}, []int{2, 1, 3, 9}},
		{[]impl.WorkSheet{workSheet(9, 0, 5, 5, 0), workSheet(1, 1, 12000, 12000, 0), workSheet(2, 1, 12000, 11999, 0)}, []int{2, 1, 9}},
		// Shares that differ by little.
		{[]impl.WorkSheet{workSheet(1, 0, 11999, 2, 0), workSheet(2, 0, 12000, 2, 0), workSheet(3, 0, 6000, 1, 0)}, []int{2, 3, 1}},
		// The share of all Knots is not the mean of the shares of the sheets.
		{[]impl.WorkSheet{workSheet(1, 0, 10, 10, 0), workSheet(2, 0, 1000, 400, 0), workSheet(1, 1, 990, 0, 0)}, []int{1, 2}},
		{[]impl.WorkSheet{workSheet(1, 0, 1000, 1, 0), workSheet(2, 0, 1000, 2, 0), workSheet(1, 1, 1000, 2, 0)}, []int{1, 2}},
		{[]impl.WorkSheet{workSheet(1, 0, 1000, 1, 0), workSheet(2, 0, 1000, 2, 0), workSheet(1, 1, 1000, 4, 0)}, []int{2, 1}},
		// No Knots are as no wrong ones, between others, too.
		{[]impl.WorkSheet{workSheet(1, 0, 100, 1, 0), workSheet(2, 0, 0, 0, 12)}, []int{2, 1}},
		{[]impl.WorkSheet{workSheet(1, 0, 0, 0, 0), workSheet(2, 0, 100, 1, 0)}, []int{1, 2}},
		{[]impl.WorkSheet{workSheet(1, 0, 100, 3, 0), workSheet(2, 0, 0, 0, 0), workSheet(3, 0, 100, 1, 0)}, []int{2, 3, 1}},
		{[]impl.WorkSheet{workSheet(1, 0, 100, 0, 0), workSheet(2, 0, 0, 0, 0), workSheet(3, 0, 100, 0, 0)}, []int{1, 2, 3}},
		{[]impl.WorkSheet{workSheet(1, 0, 1, 1, 0), workSheet(2, 0, 0, 0, 0), workSheet(3, 0, 1, 0, 0), workSheet(4, 0, 0, 0, 0), workSheet(5, 0, 2, 1, 0)}, []int{2, 3, 4, 5, 1}},
		{[]impl.WorkSheet{workSheet(9, 0, 0, 0, 0), workSheet(1, 1, 0, 0, 0)}, []int{1, 9}},
		{[]impl.WorkSheet{workSheet(9, 0, 0, 0, 0), workSheet(5, 1, 10, 1, 0), workSheet(9, 1, 10, 2, 0)}, []int{5, 9}},
		{nil, nil}, {[]impl.WorkSheet{}, nil},
	} {
		if weavers, ok := impl.CarefulWeavers(c.list); !ok || !slices.Equal(weavers, c.want) {
			t.Errorf("CarefulWeavers(%v) = %v, %v, not %v", c.list, weavers, ok, c.want)
		}
	}
}

// shareByFraction returns the share of wrong knots of a Weaver.
func shareByFraction(list []impl.WorkSheet, weaver int) *big.Rat {
	wrong, knots := int64(0), int64(0)
	for _, s := range list {
		if s.Weaver == weaver {
			wrong, knots = wrong+int64(s.Wrong), knots+int64(s.Knots)
		}
	}
	if knots == 0 {
		return new(big.Rat)
	}
	return big.NewRat(wrong, knots)
}

func TestCarefulWeaversByFractions(t *testing.T) {
	for _, list := range mixedSheets() {
		weavers, ok := impl.CarefulWeavers(list)
		sorted := slices.Clone(weavers)
		slices.Sort(sorted)
		if !ok || !slices.Equal(sorted, sheetWeavers(list)) {
			t.Fatalf("CarefulWeavers(%v) = %v, %v", list, weavers, ok)
		}
		for i, weaver := range weavers {
			if i == 0 {
				continue
			}
			order := shareByFraction(list, weavers[i-1]).Cmp(shareByFraction(list, weaver))
			if order > 0 || order == 0 && weavers[i-1] > weaver {
				t.Fatalf("CarefulWeavers(%v) = %v, where %d does not come before %d", list, weavers, weavers[i-1], weaver)
			}
		}
	}
}

// Twelve Weavers with few different shares, so that many are equal and some have no Knots.
func TestManyCarefulWeavers(t *testing.T) {
	next := dyeNumbers(142)
	shares := [][2]int{{0, 0}, {0, 5}, {1, 2}, {6000, 12000}, {1, 3}, {4000, 12000}, {7, 7}, {0, 0}, {3999, 12000}}
	for range 400 {
		var list []impl.WorkSheet
		for weaver := 1; weaver <= 12; weaver++ {
			share := shares[next(len(shares))]
			list = append(list, workSheet(weaver, 5, share[1], share[0], 0))
		}
		want := sheetWeavers(list)
		for i := range want {
			for j := i; j > 0 && shareByFraction(list, want[j]).Cmp(shareByFraction(list, want[j-1])) < 0; j-- {
				want[j], want[j-1] = want[j-1], want[j]
			}
		}
		if weavers, ok := impl.CarefulWeavers(list); !ok || !slices.Equal(weavers, want) {
			t.Fatalf("CarefulWeavers(%v) = %v, %v, not %v", list, weavers, ok, want)
		}
	}
}

func TestBestDayOf(t *testing.T) {
	list := []impl.WorkSheet{
		workSheet(1, 10, 8100, 50, 0), workSheet(2, 10, 500, 250, 0), workSheet(3, 10, 0, 0, 12), workSheet(1, 11, 7999, 0, 2), workSheet(2, 11, 250, 0, 0), workSheet(4, 11, 12000, 12000, 0),
		workSheet(1, 12, 12000, 3950, 0), workSheet(2, 12, 251, 0, 0), workSheet(3, 12, 0, 0, 0), workSheet(5, 12, 12000, 11999, 0), workSheet(5, 13, 2, 0, 0), workSheet(4, 4000, 1, 0, 0),
	}
	for weaver, want := range map[int]int{1: 10, 2: 12, 3: 10, 4: 4000, 5: 13} {
		if day, ok := impl.BestDayOf(list, weaver); !ok || day != want {
			t.Errorf("BestDayOf(%v, %d) = %d, %v, not %d", list, weaver, day, ok, want)
		}
	}
	// Without sheets there is no Day, which is not the Day 0.
	for _, weaver := range []int{6, 7, 98, 99} {
		if day, ok := impl.BestDayOf(list, weaver); ok || day != 0 {
			t.Errorf("BestDayOf(%v, %d) = %d, %v", list, weaver, day, ok)
		}
	}
	for _, c := range []struct {
		list []impl.WorkSheet
		want int
	}{
		{[]impl.WorkSheet{workSheet(1, 0, 0, 0, 0)}, 0}, {[]impl.WorkSheet{workSheet(1, 0, 5, 5, 0), workSheet(1, 1, 0, 0, 0)}, 0}, {[]impl.WorkSheet{workSheet(1, 0, 0, 0, 0), workSheet(1, 1, 1, 0, 0)}, 1},
		{[]impl.WorkSheet{workSheet(1, 3, 9, 8, 0), workSheet(1, 5, 1, 0, 12), workSheet(1, 7, 2, 1, 0)}, 3}, {[]impl.WorkSheet{workSheet(1, 4000, 12000, 12000, 0)}, 4000},
	} {
		if day, ok := impl.BestDayOf(c.list, 1); !ok || day != c.want {
			t.Errorf("BestDayOf(%v, 1) = %d, %v, not %d", c.list, day, ok, c.want)
		}
	}
}

// bestByKnots looks at each number of right knots in turn, from the greatest one on, and there at the sheets in their order.
func bestByKnots(list []impl.WorkSheet, weaver int) int {
	for right := 12000; right >= 0; right-- {
		for _, s := range list {
			if s.Weaver == weaver && s.Knots == right+s.Wrong {
				return s.Day
			}
		}
	}
	return 0
}

func TestBestDayOfByKnots(t *testing.T) {
	for _, list := range mixedSheets() {
		for _, weaver := range append(wageNumbers(), 4, 10, 42, 50) {
			valid := hasSheet(list, weaver)
			want := 0
			if valid {
				want = bestByKnots(list, weaver)
			}
			if day, ok := impl.BestDayOf(list, weaver); ok != valid || day != want {
				t.Errorf("BestDayOf(%v, %d) = %d, %v, not %d", list, weaver, day, ok, want)
			}
		}
	}
}

func TestKnotsForWage(t *testing.T) {
	r := ratesOf(250, 900, 1000, 500, 100)
	for _, c := range []struct {
		r           impl.Rates
		cents, want int
	}{
		{r, 2500, 8000}, {r, 1000, 0}, {r, 0, 0}, {r, 1, 0}, {r, 1001, 4004}, {r, 1002, 4008}, {r, 3500, 12000}, {r, 3499, 11996},
		// What only the Bonus brings.
		{r, 1999, 7996}, {r, 2000, 8000}, {r, 2001, 8000}, {r, 2501, 8004},
		{ratesOf(0, 0, 0, 500, 0), 1, 8000}, {ratesOf(0, 0, 0, 500, 0), 500, 8000}, {ratesOf(0, 0, 0, 500, 0), 501, -1}, {ratesOf(0, 0, 0, 500, 0), 0, 0},
		{ratesOf(0, 0, 500, 500, 0), 500, 0}, {ratesOf(0, 0, 499, 500, 0), 500, 8000}, {ratesOf(250, 0, 2500, 500, 0), 2500, 0}, {ratesOf(250, 0, 2500, 500, 0), 2501, 8004},
		// There is none.
		{r, 3501, -1}, {r, 1000000, -1}, {impl.Rates{}, 0, 0}, {impl.Rates{}, 1, -1}, {ratesOf(0, 10000, 0, 0, 10000), 1, -1}, {ratesOf(0, 0, 7, 0, 0), 7, 0}, {ratesOf(0, 0, 7, 0, 0), 8, -1},
		{ratesOf(1, 0, 0, 0, 0), 1, 1000}, {ratesOf(1, 0, 0, 0, 0), 12, 12000}, {ratesOf(1, 0, 0, 0, 0), 13, -1}, {ratesOf(1000, 0, 0, 0, 0), 12000, 12000}, {ratesOf(1000, 0, 0, 0, 0), 1, 1},
		{ratesOf(10000, 0, 0, 10000, 0), 130000, 12000}, {ratesOf(10000, 0, 0, 10000, 0), 129999, 12000}, {ratesOf(10000, 0, 0, 10000, 0), 129990, 11999}, {ratesOf(10000, 0, 0, 10000, 0), 130001, -1},
		{ratesOf(10000, 0, 0, 10000, 0), 79990, 7999}, {ratesOf(10000, 0, 0, 10000, 0), 79991, 8000}, {ratesOf(10000, 0, 0, 10000, 0), 90000, 8000}, {ratesOf(10000, 0, 0, 10000, 0), 90001, 8001},
	} {
		knots, ok := impl.KnotsForWage(c.r, c.cents)
		if ok != (c.want >= 0) || knots != max(c.want, 0) {
			t.Errorf("KnotsForWage(%v, %d) = %d, %v, not %d", c.r, c.cents, knots, ok, c.want)
		}
	}
	for _, r := range someRates() {
		for _, cents := range append(wageNumbers(), -1000000, 999999, 1000000, 1000001, 1000002) {
			if knots, ok := impl.KnotsForWage(r, cents); (cents < 0 || cents > 1000000) && ok || !ok && knots != 0 {
				t.Errorf("KnotsForWage(%v, %d) = %d, %v", r, cents, knots, ok)
			}
		}
	}
}

// Promise 14: the knots for a wage are enough and one less is not.
func TestKnotsForWageAreEnoughAndNotOneLess(t *testing.T) {
	for _, r := range someRates() {
		found, missing := 0, 0
		for cents := 0; cents <= 131000; cents += 1 + cents%7*(cents/5000) {
			knots, ok := impl.KnotsForWage(r, cents)
			if !ok {
				most, _ := impl.WageOf(r, workSheet(1, 0, 12000, 0, 0))
				if knots != 0 || most >= cents {
					t.Fatalf("KnotsForWage(%v, %d) = %d, %v, but 12000 knots bring %d", r, cents, knots, ok, most)
				}
				missing++
				continue
			}
			found++
			enough, valid := impl.WageOf(r, workSheet(1, 0, knots, 0, 0))
			if !valid || enough < cents {
				t.Fatalf("KnotsForWage(%v, %d) = %d, which bring %d, %v", r, cents, knots, enough, valid)
			}
			if knots == 0 {
				continue
			}
			less, valid := impl.WageOf(r, workSheet(1, 0, knots-1, 0, 0))
			if !valid || less >= cents {
				t.Fatalf("KnotsForWage(%v, %d) = %d, but one less bring %d, %v", r, cents, knots, less, valid)
			}
		}
		if found == 0 || missing == 0 {
			t.Errorf("for %v there are knots for %d wages and none for %d", r, found, missing)
		}
	}
}

// Promise 14 against a walk from no knots upwards, for each wage up to one that is never reached.
func TestKnotsForWageByWalk(t *testing.T) {
	for _, r := range someRates() {
		most := wageByParts(r, workSheet(1, 0, 12000, 0, 0))
		knots := 0
		for cents := 0; cents <= most; cents++ {
			for wageByParts(r, workSheet(1, 0, knots, 0, 0)) < cents {
				knots++
			}
			if told, ok := impl.KnotsForWage(r, cents); !ok || told != knots {
				t.Fatalf("KnotsForWage(%v, %d) = %d, %v, not %d", r, cents, told, ok, knots)
			}
		}
		if knots, ok := impl.KnotsForWage(r, most+1); ok || knots != 0 {
			t.Fatalf("KnotsForWage(%v, %d) = %d, %v", r, most+1, knots, ok)
		}
	}
}

func TestMissedBonus(t *testing.T) {
	for _, c := range []struct {
		knots, wrong int
		missed       bool
	}{
		{8100, 200, true}, {8100, 50, false}, {8100, 100, false}, {8100, 101, true}, {8000, 0, false}, {8000, 1, true}, {8000, 8000, true}, {7999, 0, false}, {7999, 1, false}, {7999, 7999, false},
		{8001, 1, false}, {8001, 2, true}, {12000, 0, false}, {12000, 4000, false}, {12000, 4001, true}, {12000, 12000, true}, {0, 0, false}, {4000, 4000, false},
	} {
		missed, ok := impl.MissedBonus([]impl.WorkSheet{workSheet(1, 0, c.knots, c.wrong, 0)})
		if !ok || len(missed) > 0 != c.missed || c.missed && !slices.Equal(missed, []int{0}) {
			t.Errorf("of %d knots and %d wrong ones the indices are %v, %v", c.knots, c.wrong, missed, ok)
		}
	}
	found := 0
	for _, list := range mixedSheets() {
		var want []int
		for i, s := range list {
			// By these Rates a wage is 1 with the Bonus, and else 0.
			all := s
			all.Wrong = 0
			if bonus := ratesOf(0, 0, 0, 1, 0); wageByParts(bonus, s) == 0 && wageByParts(bonus, all) == 1 {
				want = append(want, i)
			}
		}
		found += len(want)
		if missed, ok := impl.MissedBonus(list); !ok || !slices.Equal(missed, want) {
			t.Errorf("MissedBonus(%v) = %v, %v, not %v", list, missed, ok, want)
		}
	}
	if found == 0 {
		t.Error("no Bonus is missed")
	}
	if missed, ok := impl.MissedBonus(daysOf(12)); !ok || !slices.Equal(missed, []int{0, 1, 2, 3, 4, 5, 6, 7, 8, 9, 10, 11}) {
		t.Error("all are missed", missed, ok)
	}
}

// checkListRefused calls each function that takes a list and Rates, of which one is not valid, and checks that all fail.
func checkListRefused(t *testing.T, r impl.Rates, list []impl.WorkSheet) {
	t.Helper()
	if weavers, wages, ok := impl.PayRoll(r, list); ok || len(weavers)+len(wages) != 0 {
		t.Errorf("PayRoll(%v, %v) = %v, %v, %v", r, list, weavers, wages, ok)
	}
	for _, weaver := range []int{0, 1, 2, 99, 100} {
		for _, days := range [][2]int{{0, 4000}, {10, 10}, {0, 0}, {11, 10}} {
			if cents, ok := impl.WagesBetween(r, list, weaver, days[0], days[1]); ok || cents != 0 {
				t.Errorf("WagesBetween(%v, %v, %d, %v) = %d, %v", r, list, weaver, days, cents, ok)
			}
		}
	}
}

func TestWageFunctionsRefuseInvalidLists(t *testing.T) {
	for _, list := range invalidSheetLists() {
		for _, r := range someRates()[:3] {
			checkListRefused(t, r, list)
		}
		if weavers, ok := impl.CarefulWeavers(list); ok || len(weavers) != 0 {
			t.Errorf("CarefulWeavers(%v) = %v, %v", list, weavers, ok)
		}
		for _, weaver := range []int{-1, 0, 1, 2, 99, 100} {
			if day, ok := impl.BestDayOf(list, weaver); ok || day != 0 {
				t.Errorf("BestDayOf(%v, %d) = %d, %v", list, weaver, day, ok)
			}
		}
		if missed, ok := impl.MissedBonus(list); ok || len(missed) != 0 {
			t.Errorf("MissedBonus(%v) = %v, %v", list, missed, ok)
		}
	}
}

func TestWageFunctionsRefuseInvalidRates(t *testing.T) {
	for _, r := range invalidRates() {
		for _, list := range [][]impl.WorkSheet{nil, daysOf(1), daysOf(12), daysOf(13)} {
			checkListRefused(t, r, list)
		}
		for _, s := range append(invalidSheets(), workSheet(1, 10, 8100, 50, 2), workSheet(99, 4000, 12000, 12000, 12), workSheet(1, 0, 0, 0, 0)) {
			if cents, ok := impl.WageOf(r, s); ok || cents != 0 {
				t.Errorf("WageOf(%v, %v) = %d, %v", r, s, cents, ok)
			}
		}
		for _, cents := range []int{-1, 0, 1, 1000, 10000, 1000000, 1000001} {
			if knots, ok := impl.KnotsForWage(r, cents); ok || knots != 0 {
				t.Errorf("KnotsForWage(%v, %d) = %d, %v", r, cents, knots, ok)
			}
		}
	}
}

func TestWageOfRefusesInvalidSheets(t *testing.T) {
	for _, s := range invalidSheets() {
		for _, r := range someRates() {
			if cents, ok := impl.WageOf(r, s); ok || cents != 0 {
				t.Errorf("WageOf(%v, %v) = %d, %v", r, s, cents, ok)
			}
		}
	}
}

// wageAnswers calls each function of the chapter, and returns all that they return as text.
func wageAnswers(r impl.Rates, list []impl.WorkSheet, weaver, from, to int) string {
	between, okBetween := impl.WagesBetween(r, list, weaver, from, to)
	weavers, wages, okRoll := impl.PayRoll(r, list)
	careful, okCareful := impl.CarefulWeavers(list)
	day, okDay := impl.BestDayOf(list, weaver)
	knots, okKnots := impl.KnotsForWage(r, to)
	missed, okMissed := impl.MissedBonus(list)
	wage, okWage := impl.WageOf(r, workSheet(weaver, from, to, weaver, from))
	return fmt.Sprint(impl.AreSheets(list), impl.AreRates(r), between, okBetween, weavers, wages, okRoll, careful, okCareful, day, okDay, knots, okKnots, missed, okMissed, wage, okWage)
}

// What lies beyond the length of a list does not matter, and stays as it is.
func TestWageFunctionsChangeNoArgument(t *testing.T) {
	rates := someRates()
	for i, list := range mixedSheets() {
		long := append(slices.Clone(list), workSheet(-1, -1, -1, -1, -1), workSheet(1, 5, 8100, 200, 3))
		given := slices.Clone(long)
		for _, weaver := range append(sheetWeavers(list), 1, 100) {
			text, plain := wageAnswers(rates[i%len(rates)], long[:len(list)], weaver, 0, 4000), wageAnswers(rates[i%len(rates)], list, weaver, 0, 4000)
			if text != plain {
				t.Fatalf("for %v there is %s, not %s", list, text, plain)
			}
		}
		if !slices.Equal(long, given) {
			t.Fatalf("%v has become %v", given, long)
		}
	}
}

// Whatever is written to one result, over all of its memory, neither another one nor an argument changes.
func TestWageResultsAreSeparate(t *testing.T) {
	r := ratesOf(250, 900, 1000, 500, 100)
	for length := 1; length <= 12; length++ {
		// All of them miss the Bonus, and each has a Weaver of its own or the same.
		for _, weavers := range []int{1, 3, 12} {
			var list []impl.WorkSheet
			for i := range length {
				list = append(list, workSheet(99-i%weavers, i, 8100, 200+i, 1))
			}
			given := slices.Clone(list)
			var results [][]int
			for range 2 {
				paid, wages, _ := impl.PayRoll(r, list)
				careful, _ := impl.CarefulWeavers(list)
				missed, _ := impl.MissedBonus(list)
				results = append(results, paid, wages, careful, missed)
			}
			for i, result := range results {
				if len(result) == 0 {
					t.Fatalf("result %d of %v is empty", i, list)
				}
			}
			checkSeparate(t, results, -1)
			if !slices.Equal(list, given) {
				t.Fatalf("%v has become %v", given, list)
			}
		}
	}
}

// Each function returns for odd numbers, Rates and lists, changes no list, and does the same at each call.
func TestWageFunctionsAreTotal(t *testing.T) {
	rates := append(invalidRates(), someRates()...)
	numbers := append(wageNumbers(), 42, math.MaxInt32, math.MinInt32)
	for i, list := range append(invalidSheetLists(), nil, daysOf(1), daysOf(12), mixedSheets()[200], mixedSheets()[400]) {
		given := slices.Clone(list)
		for j, a := range numbers {
			for k := range 8 {
				r, b, c := rates[(i*11+j*5+k)%len(rates)], numbers[(i+j*3+k*7)%len(numbers)], numbers[(i*3+j+k*11)%len(numbers)]
				if first, second := wageAnswers(r, list, a, b, c), wageAnswers(r, list, a, b, c); first != second {
					t.Fatalf("for %v, %v, %d, %d and %d there is %s, and then %s", r, list, a, b, c, first, second)
				}
			}
		}
		if !slices.Equal(list, given) {
			t.Errorf("%v has become %v", given, list)
		}
	}
}

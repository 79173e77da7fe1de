package sale_test

// The rules of DOC.md for this layer, which has no objects, texts or files, and leaves nothing free (R8).

import (
	"math"
	"reflect"
	"slices"
	"testing"

	"aigrette/api"
	"aigrette/sale"
)

// call is a function with arguments: its results, the error last.
type call struct {
	name    string
	results func() []any
}

// callsOfSale returns the calls of all functions of a sale alone.
func callsOfSale(s [][]int) []call {
	return []call{
		{"Check", func() []any { e := sale.Check(s); return []any{e} }},
		{"Best", func() []any { x, e := sale.Best(s); return []any{x, e} }},
		{"Ties", func() []any { x, e := sale.Ties(s); return []any{x, e} }},
		{"Pays", func() []any { x, e := sale.Pays(s); return []any{x, e} }},
		{"Gains", func() []any { x, e := sale.Gains(s); return []any{x, e} }},
		{"Lowest", func() []any { x, e := sale.Lowest(s); return []any{x, e} }},
		{"Highest", func() []any { x, e := sale.Highest(s); return []any{x, e} }},
	}
}

// callsWithLists returns the calls of all functions of a sale that have other arguments as well.
func callsWithLists(s [][]int, bidder int, worths, prices, division []int) []call {
	return []call{
		{"Worth", func() []any { x, e := sale.Worth(s, division); return []any{x, e} }},
		{"Told", func() []any { x, y, z, e := sale.Told(s, bidder, worths); return []any{x, y, z, e} }},
		{"Wanted", func() []any { x, e := sale.Wanted(s, prices); return []any{x, e} }},
		{"Fair", func() []any { e := sale.Fair(s, prices, division); return []any{e} }},
		{"Over", func() []any { x, e := sale.Over(s, prices); return []any{x, e} }},
	}
}

// everyCall calls do with the calls of all functions with many arguments, most of them invalid.
func everyCall(do func(call call, arguments ...any)) {
	numbers := append(listsOf(2, -2, 2), nil, list(0), list(1, 0, -1), list(0, -1, -1, 1, 2), list(99, 99, 99), list(100, 100), list(math.MaxInt, math.MinInt), list(-1, -1, -1, -1, -1, -1), list(math.MinInt))
	sales := [][][]int{exampleS(), exampleT(), noLots(1), noLots(5), full(5, 5, 99), full(1, 1, 0), mixed(4, 3, 9, 1), mixed(2, 2, 4, 2)}
	for _, x := range wrong() {
		sales = append(sales, x.sale)
	}
	for _, s := range sales {
		for _, call := range callsOfSale(s) {
			do(call, s)
		}
		for i, one := range numbers {
			other, bidder := numbers[(3*i+1)%len(numbers)], list(math.MinInt, -1, 0, 1, 4, 5, math.MaxInt)[i%7]
			for _, call := range callsWithLists(s, bidder, one, one, other) {
				do(call, s, bidder, one, other)
			}
		}
	}
}

// P1, R5, F8: each call returns, and returns the same again.
func TestSameAgain(t *testing.T) {
	everyCall(func(call call, arguments ...any) {
		if one, two := call.results(), call.results(); !reflect.DeepEqual(one, two) {
			t.Errorf("%s%v: %v, then %v", call.name, arguments, one, two)
		}
	})
}

// R1: where several errors apply, the one that the chapter names first counts.
func TestFirstError(t *testing.T) {
	s, big := exampleS(), lists(list(100), list(1, 2))
	_, _, _, bidder := sale.Told(s, 3, list(100))
	_, _, _, shape := sale.Told(s, 0, list(100))
	_, check := sale.Wanted(big, nil)
	_, many := sale.Best(append(full(5, 2, 1), list(100)))
	_, prices := sale.Over(s, list(100))
	_, length := sale.Worth(s, list(9, 9))
	_, first := sale.Worth(s, list(0, 0, 9))
	_, none := sale.Worth(s, list(9, 0, 0))
	for _, x := range []struct {
		name      string
		got, want api.Errno
	}{
		{"no bidder of that number before shape", bidder, api.ErrNone},
		{"shape of worths before range", shape, api.ErrShape},
		{"the first bidder's range before the next one's shape", check, api.ErrRange},
		{"many before shape and range", many, api.ErrMany},
		{"shape of prices before range", prices, api.ErrShape},
		{"shape of a division before none and twice", length, api.ErrShape},
		{"twice of the first number with an error", first, api.ErrTwice},
		{"none of the first number with an error", none, api.ErrNone},
		{"prices before a division", sale.Fair(s, list(100, 0), nil), api.ErrRange},
		{"a division before proof", sale.Fair(s, list(0, 0), list(0, 0, 1)), api.ErrTwice},
	} {
		sameError(t, x.name, x.got, x.want)
	}
}

// zero tells whether a result is a zero value, or a list without elements.
func zero(result any) bool {
	v := reflect.ValueOf(result)
	return v.IsZero() || v.Kind() == reflect.Slice && v.Len() == 0
}

// R2: besides an error all results are zero values.
func TestZeroBesidesError(t *testing.T) {
	everyCall(func(call call, arguments ...any) {
		results := call.results()
		last := len(results) - 1
		if results[last] != api.OK && slices.ContainsFunc(results[:last], func(r any) bool { return !zero(r) }) {
			t.Errorf("%s%v: %v", call.name, arguments, results)
		}
	})
}

// R3: lists without elements are equal, nil or not.
func TestEmptyLists(t *testing.T) {
	none := append(callsOfSale(nil), callsWithLists(nil, 0, nil, nil, nil)...)
	empty := append(callsOfSale(lists()), callsWithLists(lists(), 0, list(), list(), list())...)
	for i, call := range none {
		results := call.results()
		if e := results[len(results)-1]; e != api.ErrEmpty || !reflect.DeepEqual(results, empty[i].results()) {
			t.Errorf("%s without bidders: %v, %v", call.name, results, empty[i].results())
		}
	}
	free := list(-1, -1)
	none = append(callsOfSale(lists(nil, nil)), callsWithLists(lists(nil, list()), 1, nil, nil, free)...)
	empty = append(callsOfSale(lists(list(), nil)), callsWithLists(lists(list(), list()), 1, list(), list(), free)...)
	for i, call := range none {
		one, two := call.results(), empty[i].results()
		wanted := api.OK
		if call.name == "Over" {
			wanted = api.ErrClash
		}
		same := slices.EqualFunc(one, two, func(a, b any) bool { return reflect.DeepEqual(a, b) || zero(a) && zero(b) })
		if !same || one[len(one)-1] != wanted {
			t.Errorf("%s without lots: %v, %v", call.name, one, two)
		}
	}
}

// overwrite changes all elements of a result, and what is behind them in its memory.
func overwrite(result any) {
	switch x := result.(type) {
	case []int:
		x = x[:cap(x)]
		for i := range x {
			x[i] = 77
		}
	case [][]int:
		x = x[:cap(x)]
		for i := range x {
			overwrite(x[i])
		}
		for i := range x {
			x[i] = list(77)
		}
	}
}

// roomy returns a copy of a list with room behind it.
func roomy(l []int) []int {
	return append(make([]int, 0, len(l)+3), l...)
}

// R4: no call changes its arguments, or what is behind them; a changed result changes neither arguments nor
// other results, earlier or later ones.
func TestOwnMemory(t *testing.T) {
	for seed := range 6 {
		s := append(make([][]int, 0, 8), mixed(5-seed%3, 3, 9, seed)...)
		for i := range s {
			s[i] = roomy(s[i])
		}
		worths, prices, division := roomy(list(5, 4, 3)), roomy(list(2, 1, 1)), roomy(slices.Repeat(list(-1), len(s)))
		arguments := func() []any {
			rows := slices.Clone(s[:cap(s)])
			for i := range rows {
				rows[i] = slices.Clone(rows[i][:cap(rows[i])])
			}
			return []any{rows, slices.Clone(worths[:cap(worths)]), slices.Clone(prices[:cap(prices)]), slices.Clone(division[:cap(division)])}
		}
		for _, call := range append(callsOfSale(s), callsWithLists(s, seed%len(s), worths, prices, division)...) {
			given, before, earlier, changed := arguments(), call.results(), call.results(), call.results()
			overwrite(changed[0])
			if again := call.results(); !reflect.DeepEqual(again, before) || !reflect.DeepEqual(earlier, before) {
				t.Errorf("%s of %v: %v, then %v", call.name, s, before, again)
			}
			if !reflect.DeepEqual(given, arguments()) {
				t.Errorf("%s changed its arguments: %v, then %v", call.name, given, arguments())
			}
		}
	}
}

// R4: what each bidder wants has memory of its own.
func TestOwnMemoryOfWanted(t *testing.T) {
	w, _ := sale.Wanted(full(3, 3, 5), list(1, 1, 5))
	overwrite(w[1])
	sameLists(t, "Wanted", w, api.OK, lists(list(0, 1), list(77, 77), list(0, 1)), api.OK)
	for i := range w {
		w[i] = append(w[i], 78)
	}
	sameLists(t, "Wanted with more", w, api.OK, lists(list(0, 1, 78), list(77, 77, 78), list(0, 1, 78)), api.OK)
}

// R6: no division with the greatest worth is smaller than Best; Wanted and Over are ascending.
func TestSmallerList(t *testing.T) {
	everySale(func(s [][]int) {
		got, most := best(t, s), worth(t, s)
		for _, division := range divisions(len(s), lotsOf(s)) {
			if slices.Compare(division, got) >= 0 {
				break
			}
			if sumOf(s, division) >= most {
				t.Errorf("Best of %v: %v, but %v is smaller", s, got, division)
			}
		}
		prices := make([]int, lotsOf(s))
		wanted, _ := sale.Wanted(s, prices)
		over, _ := sale.Over(s, prices)
		for _, l := range append(wanted, over) {
			if !slices.IsSorted(l) || len(slices.Compact(slices.Clone(l))) != len(l) {
				t.Errorf("%v: Wanted: %v, Over: %v", s, wanted, over)
			}
		}
	})
}

// R7: bounds include both ends.
func TestBothEnds(t *testing.T) {
	for number := -1; number <= sale.MaxWorth+1; number++ {
		wanted := api.OK
		if number < 0 || number > sale.MaxWorth {
			wanted = api.ErrRange
		}
		_, _, _, lie := sale.Told(full(2, 1, 5), 1, list(number))
		_, prices := sale.Wanted(full(2, 1, 5), list(number))
		if e := sale.Check(full(2, 1, number)); e != wanted || lie != wanted || prices != wanted {
			t.Errorf("%d: Check: %d, Told: %d, Wanted: %d, want %d", number, e, lie, prices, wanted)
		}
	}
	for bidders := range sale.MaxBidders + 2 {
		for lots := range sale.MaxLots + 2 {
			wanted := api.OK
			if bidders == 0 {
				wanted = api.ErrEmpty
			} else if bidders > sale.MaxBidders || lots > sale.MaxLots {
				wanted = api.ErrMany
			}
			if e := sale.Check(full(bidders, lots, 99)); e != wanted {
				t.Errorf("Check of %d bidders, %d lots: %d, want %d", bidders, lots, e, wanted)
			}
		}
	}
}

package tray_test

// The rules of DOC.md for this layer, which has no objects, texts or files, and leaves nothing free (R8).

import (
	"math"
	"reflect"
	"slices"
	"testing"

	"aigrette/api"
	"aigrette/tray"
)

// call is a function with arguments: its results, the error last.
type call struct {
	name    string
	results func() []any
}

// callsOfShelf returns the calls of all functions of a shelf.
func callsOfShelf(s tray.Shelf) []call {
	return []call{
		{"Check", func() []any { e := tray.Check(s); return []any{e} }},
		{"Contained", func() []any { x, y, e := tray.Contained(s); return []any{x, y, e} }},
		{"Orders", func() []any { x, e := tray.Orders(s); return []any{x, e} }},
		{"Shadow", func() []any { x, e := tray.Shadow(s); return []any{x, e} }},
		{"Shade", func() []any { x, e := tray.Shade(s); return []any{x, e} }},
	}
}

// callsOfTray returns the calls of all functions of a tray.
func callsOfTray(dyes int, one []int) []call {
	return []call{
		{"Free", func() []any { x, e := tray.Free(dyes, one...); return []any{x, e} }},
		{"Chain", func() []any { x, e := tray.Chain(dyes, one...); return []any{x, e} }},
		{"Number", func() []any { x, e := tray.Number(dyes, one...); return []any{x, e} }},
	}
}

// callsOfNumbers returns the calls of all functions of numbers alone.
func callsOfNumbers(dyes, size, number int) []call {
	return []call{
		{"Most", func() []any { x, e := tray.Most(dyes); return []any{x, e} }},
		{"Chains", func() []any { x, e := tray.Chains(dyes); return []any{x, e} }},
		{"Nth", func() []any { x, e := tray.Nth(dyes, size, number); return []any{x, e} }},
		{"Lean", func() []any { x, e := tray.Lean(dyes, size, number); return []any{x, e} }},
	}
}

// extreme returns numbers of which most are out of bounds.
func extreme() []int {
	return list(math.MinInt, -65, -1, 0, 1, 2, 3, 4, 5, 6, 7, 19, 20, 21, 63, 64, 1<<62, math.MaxInt)
}

// everyCall calls do with the calls of all functions with many arguments, many of them invalid.
func everyCall(do func(call call, arguments ...any)) {
	shelves := slices.Concat(smallShelves(), ordered(3, 2))
	for _, x := range wrong() {
		shelves = append(shelves, x.shelf)
	}
	for seed := range 100 {
		shelves = append(shelves, drawn(seed))
	}
	for _, s := range shelves {
		for _, call := range callsOfShelf(s) {
			do(call, s)
		}
	}
	numbers := extreme()
	for i, dyes := range numbers {
		for _, one := range slices.Concat(listsOf(2, -1, 6), allTrays(6), lists(numbers, list(numbers[i], dyes), list(0, dyes, 1))) {
			for _, call := range callsOfTray(dyes, one) {
				do(call, dyes, one)
			}
		}
		for _, size := range numbers {
			for _, number := range numbers {
				for _, call := range callsOfNumbers(dyes, size, number) {
					do(call, dyes, size, number)
				}
			}
		}
	}
}

// P1, R5, F8: each call returns, and returns the same again.
func TestSameAgain(t *testing.T) {
	everyCall(func(call call, arguments ...any) {
		if one, two := call.results(), call.results(); !reflect.DeepEqual(one, two) {
			t.Errorf("%s%v: %v, then %v", call.name, arguments, one, two)
		}
	})
}

// R1: where several errors apply, the one that the chapter names first counts.
func TestFirstError(t *testing.T) {
	_, _, contained := tray.Contained(shelf(7, list(9)))
	_, lost := tray.Orders(shelf(2, list(0), list(9)))
	_, free := tray.Free(7, 9, 0)
	_, chain := tray.Chain(3, 2, 2, 9)
	_, number := tray.Number(3, 9, 9)
	_, nth := tray.Nth(7, 2, -1)
	_, size := tray.Nth(6, 7, -1)
	_, lean := tray.Lean(4, -1, 99)
	for _, x := range []struct {
		name      string
		got, want api.Errno
	}{
		{"range before none", contained, api.ErrRange},
		{"none of a later tray", lost, api.ErrNone},
		{"range before none and order of a tray", free, api.ErrRange},
		{"order of the first element with an error", chain, api.ErrOrder},
		{"none of the first element with an error", number, api.ErrNone},
		{"none before order of one element", tray.Check(shelf(3, list(1, -1))), api.ErrNone},
		{"order of the first tray before none of the second one", tray.Check(shelf(3, list(1, 0), list(9))), api.ErrOrder},
		{"none of the first tray before order of the second one", tray.Check(shelf(3, list(9), list(1, 0))), api.ErrNone},
		{"twice before none of a later tray", tray.Check(shelf(3, nil, nil, list(9))), api.ErrTwice},
		{"none before twice of a later tray", tray.Check(shelf(3, nil, list(9), nil)), api.ErrNone},
		{"the range of dyes before none", nth, api.ErrRange},
		{"the range of the size before none", size, api.ErrRange},
		{"the range of the size before none of Lean", lean, api.ErrRange},
	} {
		sameError(t, x.name, x.got, x.want)
	}
}

// zero tells whether a result is a zero value, or a list without elements.
func zero(result any) bool {
	v := reflect.ValueOf(result)
	return v.IsZero() || v.Kind() == reflect.Slice && v.Len() == 0
}

// R2: besides an error all results are zero values.
func TestZeroBesidesError(t *testing.T) {
	everyCall(func(call call, arguments ...any) {
		results := call.results()
		last := len(results) - 1
		if results[last] != api.OK && slices.ContainsFunc(results[:last], func(r any) bool { return !zero(r) }) {
			t.Errorf("%s%v: %v", call.name, arguments, results)
		}
	})
}

// R3: lists without elements are equal, nil or not: shelves without trays, and trays without dyes.
func TestEmptyLists(t *testing.T) {
	for dyes := -1; dyes <= 8; dyes++ {
		for _, pair := range [][2]tray.Shelf{
			{shelf(dyes), {Dyes: dyes, Trays: lists()}},
			{shelf(dyes, nil), shelf(dyes, list())},
			{shelf(dyes, list(0), nil), shelf(dyes, list(0), list())},
			{shelf(dyes, nil, list()), shelf(dyes, list(), nil)},
			{shelf(dyes, nil, nil), shelf(dyes, list(), list())},
		} {
			other := callsOfShelf(pair[1])
			for i, call := range callsOfShelf(pair[0]) {
				if one, two := call.results(), other[i].results(); !reflect.DeepEqual(one, two) {
					t.Errorf("%s of %v: %v, %v", call.name, pair, one, two)
				}
			}
		}
		other := callsOfTray(dyes, list())
		for i, call := range callsOfTray(dyes, nil) {
			if one, two := call.results(), other[i].results(); !reflect.DeepEqual(one, two) {
				t.Errorf("%s of %d, no dyes: %v, %v", call.name, dyes, one, two)
			}
		}
	}
}

// overwrite changes all elements of a result, and what is behind them in its memory.
func overwrite(result any) {
	switch x := result.(type) {
	case []int:
		x = x[:cap(x)]
		for i := range x {
			x[i] = 77
		}
	case [][]int:
		x = x[:cap(x)]
		for i := range x {
			overwrite(x[i])
			x[i] = list(77)
		}
	case [][][]int:
		x = x[:cap(x)]
		for i := range x {
			overwrite(x[i])
			x[i] = lists(list(77))
		}
	}
}

// roomy returns a copy of a list with room behind it.
func roomy[T any](l []T) []T {
	return append(make([]T, 0, len(l)+3), l...)
}

// R4: no call changes its arguments, or what is behind them; a changed result changes neither arguments nor
// other results, earlier or later ones.
func TestOwnMemory(t *testing.T) {
	for seed := range 40 {
		s := drawn(seed)
		s.Trays = roomy(s.Trays)
		for i := range s.Trays {
			s.Trays[i] = roomy(s.Trays[i])
		}
		arguments := func() [][]int {
			trays := slices.Clone(s.Trays[:cap(s.Trays)])
			for i := range trays {
				trays[i] = slices.Clone(trays[i][:cap(trays[i])])
			}
			return trays
		}
		calls := slices.Concat(callsOfShelf(s), callsOfNumbers(s.Dyes, s.Dyes/2, 1))
		for _, one := range s.Trays {
			calls = append(calls, callsOfTray(s.Dyes, one)...)
		}
		for _, call := range calls {
			given, before, earlier, changed := arguments(), call.results(), call.results(), call.results()
			overwrite(changed[0])
			if again := call.results(); !reflect.DeepEqual(again, before) || !reflect.DeepEqual(earlier, before) {
				t.Errorf("%s of %v: %v, then %v", call.name, s, before, again)
			}
			if !reflect.DeepEqual(given, arguments()) {
				t.Errorf("%s changed its arguments: %v, then %v", call.name, given, arguments())
			}
		}
	}
}

// checkApart appends to each list, and writes over what it gets; the others must stay.
func checkApart(t *testing.T, name string, l [][]int) {
	t.Helper()
	for i := range l {
		before := slices.Clone(l)
		for j := range before {
			before[j] = slices.Clone(l[j])
		}
		overwrite(append(l[i], 78))
		overwrite(l[i])
		for j := range l {
			if j != i && !slices.Equal(l[j], before[j]) {
				t.Errorf("%s: %v changed with %v", name, before[j], before[i])
			}
		}
	}
}

// R4: each tray of a result has memory of its own.
func TestOwnMemoryOfTrays(t *testing.T) {
	for dyes := 1; dyes <= 6; dyes++ {
		for _, one := range allTrays(dyes) {
			c, _ := tray.Chain(dyes, one...)
			checkApart(t, "Chain", c)
		}
		all, _ := tray.Chains(dyes)
		checkApart(t, "Chains", slices.Concat(all...))
		s := shelf(dyes, allTrays(dyes)...)
		l, _ := tray.Shadow(s)
		checkApart(t, "Shadow", l)
		l, _ = tray.Shade(s)
		checkApart(t, "Shade", l)
	}
}

// R4: each chain of a result has memory of its own.
func TestOwnMemoryOfChains(t *testing.T) {
	all, _ := tray.Chains(4)
	want, _ := tray.Chains(4)
	for i := range all {
		overwrite(append(all[i], list(79)))
		overwrite(all[i])
		sameChains(t, "the other Chains", all[i+1:], api.OK, want[i+1:], api.OK)
	}
}

// ascends tells whether lists are in ascending order, and all different.
func ascends(l [][]int) bool {
	return slices.IsSortedFunc(l, slices.Compare[[]int]) && len(slices.CompactFunc(slices.Clone(l), slices.Equal[[]int])) == len(l)
}

// R6: trays are ascending, and so are shadow and shade, and the first trays of all chains.
func TestAscending(t *testing.T) {
	for _, s := range someShelves() {
		shadow, _ := tray.Shadow(s)
		shade, _ := tray.Shade(s)
		if !ascends(shadow) || !ascends(shade) {
			t.Errorf("%v: Shadow: %v, Shade: %v", s, shadow, shade)
		}
		for _, one := range slices.Concat(shadow, shade) {
			sameError(t, "a tray of shadow or shade", tray.Check(shelf(s.Dyes, one)), api.OK)
		}
	}
	for dyes := 1; dyes <= 6; dyes++ {
		all, _ := tray.Chains(dyes)
		var first [][]int
		for _, chain := range all {
			first = append(first, chain[0])
			sameError(t, "a chain", tray.Check(shelf(dyes, chain...)), api.OK)
		}
		if !ascends(first) {
			t.Errorf("Chains of %d begin with %v", dyes, first)
		}
	}
}

// R7: bounds include both ends.
func TestBothEnds(t *testing.T) {
	inside := func(number, first, last int, e api.Errno) api.Errno {
		if number < first || number > last {
			return e
		}
		return api.OK
	}
	for number := -2; number <= 80; number++ {
		wanted := inside(number, 1, tray.MaxDyes, api.ErrRange)
		_, most := tray.Most(number)
		_, chains := tray.Chains(number)
		_, nth := tray.Nth(number, 0, 0)
		_, lean := tray.Lean(number, 0, 1)
		_, free := tray.Free(number)
		if e := tray.Check(shelf(number)); e != wanted || most != wanted || chains != wanted || nth != wanted || lean != wanted || free != wanted {
			t.Errorf("%d dyes: %d %d %d %d %d %d, want %d", number, e, most, chains, nth, lean, free, wanted)
		}
		_, nth = tray.Nth(5, number, 0)
		_, lean = tray.Lean(5, number, 0)
		sameError(t, "the size of Nth", nth, inside(number, 0, 5, api.ErrRange))
		sameError(t, "the size of Lean", lean, inside(number, 0, 5, api.ErrRange))
		_, nth = tray.Nth(6, 3, number)
		_, lean = tray.Lean(6, 3, number)
		sameError(t, "the number of Nth", nth, inside(number, 0, 19, api.ErrNone))
		sameError(t, "the trays of Lean", lean, inside(number, 0, 20, api.ErrNone))
		sameError(t, "a dye", tray.Check(shelf(4, list(number))), inside(number, 0, 3, api.ErrNone))
	}
}

package bunch_test

// The rules of DOC.md for this layer, which has no objects, texts or files, and leaves nothing free (R8).

import (
	"math"
	"reflect"
	"slices"
	"testing"

	"aigrette/api"
	"aigrette/bunch"
)

// call is a function with arguments: its results, the error last.
type call struct {
	name    string
	results func() []any
}

// callsOfDivision returns the calls of all functions of a division.
func callsOfDivision(l []int) []call {
	return []call{
		{"Check", func() []any { e := bunch.Check(l); return []any{e} }},
		{"Turn", func() []any { x, e := bunch.Turn(l); return []any{x, e} }},
		{"Number", func() []any { x, e := bunch.Number(l); return []any{x, e} }},
		{"Double", func() []any { x, e := bunch.Double(l); return []any{x, e} }},
		{"Half", func() []any { x, e := bunch.Half(l); return []any{x, e} }},
		{"Partner", func() []any { x, e := bunch.Partner(l); return []any{x, e} }},
		{"Square", func() []any { k, x, y, e := bunch.Square(l); return []any{k, x, y, e} }},
		{"Hooks", func() []any { x, e := bunch.Hooks(l); return []any{x, e} }},
		{"Fold", func() []any { x, e := bunch.Fold(l); return []any{x, e} }},
	}
}

// callOfJoin returns the call of Join.
func callOfJoin(x cut) call {
	return call{"Join", func() []any { l, e := bunch.Join(x.k, x.right, x.below); return []any{l, e} }}
}

// callsOfNumbers returns the calls of all functions of numbers alone.
func callsOfNumbers(feathers, other int) []call {
	return []call{
		{"Count", func() []any { x, e := bunch.Count(feathers); return []any{x, e} }},
		{"Counts", func() []any { x, e := bunch.Counts(feathers, other); return []any{x, e} }},
		{"Different", func() []any { x, e := bunch.Different(feathers); return []any{x, e} }},
		{"Signed", func() []any { x, e := bunch.Signed(feathers); return []any{x, e} }},
		{"Nth", func() []any { x, e := bunch.Nth(feathers, other); return []any{x, e} }},
	}
}

// extreme returns numbers of which most are out of bounds.
func extreme() []int {
	return list(math.MinInt, -1<<32, -31, -1, 0, 1, 2, 3, 5, 6, 29, 30, 31, 32, 5603, 5604, 1<<32, 1<<62, math.MaxInt)
}

// someLists returns divisions, and lists that are not.
func someLists() [][]int {
	lists := slices.Concat(upTo(16), listsOf(3, -1, 0, 1, 2, 15, 30, 31), listsOf(2, extreme()...))
	for _, x := range wrong() {
		lists = append(lists, x.division)
	}
	return lists
}

// someCuts returns cuts of divisions, and others that cannot be joined.
func someCuts() []cut {
	var cuts []cut
	for _, division := range upTo(12) {
		cuts = append(cuts, cutOf(division))
	}
	parts := slices.Concat(upTo(4), listsOf(2, -1, 0, 3, 31), [][]int{{30}, {30, 1}, {13, 12}, {6, 6, 6, 6, 6}})
	for _, k := range extreme() {
		for _, right := range parts {
			for _, below := range parts {
				cuts = append(cuts, cut{k, right, below})
			}
		}
	}
	return cuts
}

// everyCall calls do with the calls of all functions with many arguments, many of them invalid.
func everyCall(do func(call call, arguments ...any)) {
	for _, l := range someLists() {
		for _, call := range callsOfDivision(l) {
			do(call, l)
		}
	}
	for _, x := range someCuts() {
		do(callOfJoin(x), x)
	}
	for _, feathers := range extreme() {
		for _, other := range extreme() {
			for _, call := range callsOfNumbers(feathers, other) {
				do(call, feathers, other)
			}
		}
	}
}

// P1, R5, F8: each call returns, and returns the same again.
func TestSameAgain(t *testing.T) {
	everyCall(func(call call, arguments ...any) {
		if one, two := call.results(), call.results(); !reflect.DeepEqual(one, two) {
			t.Errorf("%s%v: %v, then %v", call.name, arguments, one, two)
		}
	})
}

// R1: where several errors apply, the one that the chapter names first counts.
func TestFirstError(t *testing.T) {
	_, half := bunch.Half(list(30, 30))
	_, double := bunch.Double(list(2, 4))
	_, partner := bunch.Partner(list(3, 3, 0))
	_, hooks := bunch.Hooks(list(20, 20))
	_, fold := bunch.Fold(list(2, 2, 31))
	_, lost := bunch.Partner(list(2, 2))
	_, right := bunch.Join(31, list(1, 2), list(0))
	_, below := bunch.Join(-1, nil, list(30, 30))
	_, bounds := bunch.Join(-1, list(1), list(1))
	_, shape := bunch.Join(1, list(15, 15), list(30))
	_, nth := bunch.Nth(31, -1)
	_, counts := bunch.Counts(-1, 31)
	for _, x := range []struct {
		name      string
		got, want api.Errno
	}{
		{"range of the first number before order", bunch.Check(list(0, 1)), api.ErrRange},
		{"order of the first number before range of the next one", bunch.Check(list(1, 2, 0)), api.ErrOrder},
		{"range before order of one number", bunch.Check(list(1, 31)), api.ErrRange},
		{"range before many", bunch.Check(list(30, 30, 0)), api.ErrRange},
		{"order before many", bunch.Check(list(29, 30)), api.ErrOrder},
		{"many before proof of Half", half, api.ErrMany},
		{"order before proof of Double", double, api.ErrOrder},
		{"range before proof of Partner", partner, api.ErrRange},
		{"many before proof of Hooks", hooks, api.ErrMany},
		{"range before proof of Fold", fold, api.ErrRange},
		{"proof before lost", lost, api.ErrProof},
		{"right before below and k", right, api.ErrOrder},
		{"below before k", below, api.ErrMany},
		{"range of k before shape", bounds, api.ErrRange},
		{"shape before many", shape, api.ErrShape},
		{"range of feathers and number", nth, api.ErrRange},
		{"range of feathers and most", counts, api.ErrRange},
	} {
		sameError(t, x.name, x.got, x.want)
	}
}

// zero tells whether a result is a zero value, or a list without elements.
func zero(result any) bool {
	v := reflect.ValueOf(result)
	return v.IsZero() || v.Kind() == reflect.Slice && v.Len() == 0
}

// R2: besides an error all results are zero values.
func TestZeroBesidesError(t *testing.T) {
	everyCall(func(call call, arguments ...any) {
		results := call.results()
		last := len(results) - 1
		if results[last] != api.OK && slices.ContainsFunc(results[:last], func(r any) bool { return !zero(r) }) {
			t.Errorf("%s%v: %v", call.name, arguments, results)
		}
	})
}

// R3: lists without elements are equal, nil or not: divisions without numbers.
func TestEmptyLists(t *testing.T) {
	other := callsOfDivision(list())
	for i, call := range callsOfDivision(nil) {
		if one, two := call.results(), other[i].results(); !slices.EqualFunc(one, two, alike) {
			t.Errorf("%s: %v, %v", call.name, one, two)
		}
	}
	for _, k := range extreme() {
		for _, part := range [][]int{nil, list(1), list(2, 1), list(0), list(30)} {
			for _, pair := range [][2]cut{{{k, part, nil}, {k, part, list()}}, {{k, nil, part}, {k, list(), part}}} {
				if one, two := callOfJoin(pair[0]).results(), callOfJoin(pair[1]).results(); !slices.EqualFunc(one, two, alike) {
					t.Errorf("Join of %v: %v, %v", pair, one, two)
				}
			}
		}
	}
}

// alike tells whether results are equal, lists without elements among them.
func alike(one, other any) bool {
	return reflect.DeepEqual(one, other) || reflect.TypeOf(one) == reflect.TypeOf(other) && reflect.TypeOf(one).Kind() == reflect.Slice && zero(one) && zero(other)
}

// overwrite changes all elements of a result, and what is behind them in its memory.
func overwrite(result any) {
	if l, ok := result.([]int); ok {
		l = l[:cap(l)]
		for i := range l {
			l[i] = 77
		}
	}
}

// roomy returns a copy of a list with room behind it.
func roomy(l []int) []int {
	return append(make([]int, 0, len(l)+5), l...)
}

// checkOwnMemory checks that a call changes none of its arguments or of what is behind them, and that none
// of its results changes its arguments, another result of it, or those of another call.
func checkOwnMemory(t *testing.T, call call, arguments ...[]int) {
	t.Helper()
	given := make([][]int, len(arguments))
	for i, argument := range arguments {
		given[i] = slices.Clone(argument[:cap(argument)])
	}
	before, earlier := call.results(), call.results()
	for i := range before {
		changed := call.results()
		overwrite(changed[i])
		for j := range changed {
			if j != i && !reflect.DeepEqual(changed[j], before[j]) {
				t.Errorf("%s of %v: %v, changed with another result: %v", call.name, arguments, before[j], changed[j])
			}
		}
		if again := call.results(); !reflect.DeepEqual(again, before) || !reflect.DeepEqual(earlier, before) {
			t.Errorf("%s of %v: %v, then %v", call.name, arguments, before, again)
		}
	}
	for i, argument := range arguments {
		if !slices.Equal(given[i], argument[:cap(argument)]) {
			t.Errorf("%s changed its argument: %v, then %v", call.name, given[i], argument[:cap(argument)])
		}
	}
}

// R4.
func TestOwnMemory(t *testing.T) {
	for _, l := range someLists() {
		l = roomy(l)
		for _, call := range callsOfDivision(l) {
			checkOwnMemory(t, call, l)
		}
	}
	for i, x := range someCuts() {
		if i%5 == 0 || errorOfJoin(x) == api.OK {
			x.right, x.below = roomy(x.right), roomy(x.below)
			checkOwnMemory(t, callOfJoin(x), x.right, x.below)
		}
	}
	for feathers := range 31 {
		for _, call := range callsOfNumbers(feathers, feathers/2) {
			checkOwnMemory(t, call)
		}
	}
}

// R4: two arguments may share their memory.
func TestSharedArguments(t *testing.T) {
	shared := list(2, 1, 1, 1)
	l, e := bunch.Join(3, shared[:3], shared[1:])
	same(t, "Join of shared memory", l, e, list(5, 4, 4, 1, 1, 1), api.OK)
	same(t, "the arguments", shared, api.OK, list(2, 1, 1, 1), api.OK)
}

// R6: divisions are numbered in ascending order, though each of them descends.
func TestAscending(t *testing.T) {
	for _, pair := range [][2][]int{{list(1, 1, 1), list(2, 1)}, {list(2, 2, 1), list(3, 1, 1)}, {list(2, 1, 1, 1), list(2, 2, 1)}, {list(4, 1), list(5)}} {
		one, _ := bunch.Number(pair[0])
		other, _ := bunch.Number(pair[1])
		if slices.Compare(pair[0], pair[1]) >= 0 || one+1 != other {
			t.Errorf("R6: Number of %v: %d, %d", pair, one, other)
		}
	}
}

// R7: bounds include both ends.
func TestBothEnds(t *testing.T) {
	for number := -2; number <= 40; number++ {
		wanted := api.OK
		if number < 0 || number > bunch.MaxFeathers {
			wanted = api.ErrRange
		}
		_, count := bunch.Count(number)
		_, counts := bunch.Counts(number, 0)
		_, most := bunch.Counts(0, number)
		_, different := bunch.Different(number)
		_, signed := bunch.Signed(number)
		_, nth := bunch.Nth(number, 0)
		if count != wanted || counts != wanted || most != wanted || different != wanted || signed != wanted || nth != wanted {
			t.Errorf("%d: %d %d %d %d %d %d, want %d", number, count, counts, most, different, signed, nth, wanted)
		}
		if e := bunch.Check(list(number)); number == 0 && e != api.ErrRange || number != 0 && e != wanted {
			t.Errorf("Check of %d: %d", number, e)
		}
		_, join := bunch.Join(number, nil, nil)
		if number > 5 && number <= bunch.MaxFeathers {
			sameError(t, "Join of a square that is too large", join, api.ErrMany)
		} else {
			sameError(t, "Join", join, wanted)
		}
		if _, e := bunch.Nth(6, number); (number < 0 || number > 10) != (e == api.ErrRange) {
			t.Errorf("Nth of 6, %d: %d", number, e)
		}
	}
}

package fan_test

// The rules of DOC.md for this layer, which has no texts (R9), objects or files, and leaves nothing free (R8).

import (
	"math"
	"reflect"
	"slices"
	"testing"

	"aigrette/api"
	"aigrette/fan"
)

// call is a function with arguments: its results, the error last.
type call struct {
	name    string
	results func() []any
}

// callsOfFan returns the calls of all functions of a fan.
func callsOfFan(f fan.Fan, kind, place int) []call {
	return []call{
		{"Check", func() []any { e := fan.Check(f); return []any{e} }},
		{"Full", func() []any { x, e := fan.Full(f); return []any{x, e} }},
		{"Put", func() []any { x, e := fan.Put(f, kind, place); return []any{x, e} }},
		{"Take", func() []any { x, e := fan.Take(f, kind); return []any{x, e} }},
		{"Free", func() []any { x, e := fan.Free(f, kind); return []any{x, e} }},
		{"Partner", func() []any { x, e := fan.Partner(f, place); return []any{x, e} }},
		{"Between", func() []any { x, e := fan.Between(f, kind); return []any{x, e} }},
		{"Crossing", func() []any { x, e := fan.Crossing(f, kind); return []any{x, e} }},
		{"Complete", func() []any { x, e := fan.Complete(f); return []any{x, e} }},
		{"Count", func() []any { x, e := fan.Count(f); return []any{x, e} }},
		{"Turned", func() []any { x, e := fan.Turned(f); return []any{x, e} }},
	}
}

// calls returns the calls of all functions.
func calls(f fan.Fan, kind, place int) []call {
	return append(callsOfFan(f, kind, place),
		call{"Can", func() []any { x, e := fan.Can(kind, f.Wide); return []any{x, e} }},
		call{"Half", func() []any { x, e := fan.Half(kind, f.Wide); return []any{x, e} }})
}

// everyArgument calls do with many combinations of arguments, most of them invalid.
func everyArgument(do func(f fan.Fan, kind, place int)) {
	extreme := list(math.MinInt, -1, 0, 1, 2, 3, 4, 5, 7, 8, 9, 15, 16, 17, math.MaxInt)
	plumes := [][]int{nil, list(), list(0), list(0, 0), list(1, 1), list(1, 0, 1, 0), list(0, 2, 0, 2), list(2, 3, 1, 2, 1, 3), list(0, 3, 1, 0, 1, 3), list(0, 0, 3, 0, 0, 3, 0, 0), list(1, 1, 3, 4, 2, 3, 2, 4), list(math.MinInt, math.MaxInt), make([]int, 16), make([]int, 18), slices.Repeat(list(8), 16)}
	for _, kinds := range append(list(6), extreme...) {
		for i, l := range plumes {
			for j, kind := range extreme {
				place := extreme[(2*i+3*j)%len(extreme)]
				do(fan.Fan{Kinds: kinds, Wide: true, Plumes: l}, kind, place)
				do(fan.Fan{Kinds: kinds, Plumes: l}, kind, place)
				do(fan.Fan{Kinds: len(l) / 2, Wide: kinds%2 == 0, Plumes: l}, kind, kinds)
			}
		}
	}
}

// P1, R5, F8: each call returns, and returns the same again.
func TestSameAgain(t *testing.T) {
	everyArgument(func(f fan.Fan, kind, place int) {
		for _, call := range calls(f, kind, place) {
			if one, two := call.results(), call.results(); !reflect.DeepEqual(one, two) {
				t.Errorf("%s(%v, %d, %d): %v, then %v", call.name, f, kind, place, one, two)
			}
		}
	})
}

// R1: where several errors apply, the one that the chapter names first counts.
func TestFirstError(t *testing.T) {
	_, noneOfPlace := fan.Put(fanM(), 3, 8)
	_, noneOfKind := fan.Put(fanM(), 5, 7)
	_, twice := fan.Put(fanM(), 3, 5)
	_, over := fan.Put(fanM(), 4, 5)
	_, free := fan.Free(fanL(), 4)
	_, take := fan.Take(narrow(1, 0), 5)
	for _, x := range []struct {
		name      string
		got, want api.Errno
	}{
		{"range before shape", fan.Check(fan.Fan{Kinds: 9, Plumes: list(10)}), api.ErrRange},
		{"shape before none", fan.Check(fan.Fan{Kinds: 1, Plumes: list(5, 5, 5)}), api.ErrShape},
		{"none before many", fan.Check(narrow(1, 1, 1, 3)), api.ErrNone},
		{"none before open", fan.Check(narrow(1, 0, 0, 3)), api.ErrNone},
		{"the first kind counts: open before many", fan.Check(narrow(2, 2, 2, 1)), api.ErrOpen},
		{"the first kind counts: clash before open", fan.Check(narrow(2, 1, 0, 1)), api.ErrClash},
		{"many before clash", fan.Check(narrow(1, 0, 1, 1)), api.ErrMany},
		{"none of a place before twice", noneOfPlace, api.ErrNone},
		{"none of a kind before over", noneOfKind, api.ErrNone},
		{"twice before over and full", twice, api.ErrTwice},
		{"over before full", over, api.ErrOver},
		{"none before twice", free, api.ErrNone},
		{"the fan before the kind", take, api.ErrOpen},
	} {
		if x.got != x.want {
			t.Errorf("%s: %d, want %d", x.name, x.got, x.want)
		}
	}
}

// zero tells whether a result is a zero value, or a list without elements.
func zero(result any) bool {
	v := reflect.ValueOf(result)
	return v.IsZero() || v.Kind() == reflect.Slice && v.Len() == 0
}

// R2: besides an error all results are zero values.
func TestZeroBesidesError(t *testing.T) {
	everyArgument(func(f fan.Fan, kind, place int) {
		for _, call := range calls(f, kind, place) {
			results := call.results()
			last := len(results) - 1
			if results[last] != api.OK && slices.ContainsFunc(results[:last], func(r any) bool { return !zero(r) }) {
				t.Errorf("%s(%v, %d, %d): %v", call.name, f, kind, place, results)
			}
		}
	})
}

// R3: a list without elements is the same if it is nil.
func TestEmptyLists(t *testing.T) {
	for _, kinds := range list(-1, 0, 1, 8, 9) {
		one, other := calls(fan.Fan{Kinds: kinds}, 1, 0), calls(fan.Fan{Kinds: kinds, Plumes: list()}, 1, 0)
		for i, call := range one {
			if a, b := call.results(), other[i].results(); !reflect.DeepEqual(a, b) {
				t.Errorf("%s: %v and %v", call.name, a, b)
			}
		}
	}
}

// overwrite changes all elements of a result.
func overwrite(result any) {
	var l []int
	switch x := result.(type) {
	case []int:
		l = x
	case fan.Fan:
		l = x.Plumes
	}
	for i := range l {
		l[i] = 99
	}
}

// R4: arguments are not changed, and a changed result changes neither them nor later results.
func TestOwnMemory(t *testing.T) {
	for kind, place := range map[int]int{3: 2, 4: 3, 1: 0} {
		room := list(0, 0, 3, 0, 0, 3, 0, 0, 77)
		for _, call := range calls(narrow(room[:8]...), kind, place) {
			before, changed := call.results(), call.results()
			overwrite(changed[0])
			if again := call.results(); !reflect.DeepEqual(again, before) {
				t.Errorf("%s: %v, then %v", call.name, before, again)
			}
			if !slices.Equal(room, list(0, 0, 3, 0, 0, 3, 0, 0, 77)) {
				t.Fatalf("%s changed an argument: %v", call.name, room)
			}
		}
	}
}

// R4: a full fan and its only completion, and a symmetric fan and itself turned, are lists of their own.
func TestResultsAreNoArguments(t *testing.T) {
	full, symmetric := fanL(), fanM()
	completion, _ := fan.Complete(full)
	mirrored, _ := fan.Turned(symmetric)
	between, _ := fan.Between(full, 3)
	overwrite(completion)
	overwrite(mirrored)
	overwrite(between)
	sameFan(t, "a full fan", full, api.OK, fanL(), api.OK)
	sameFan(t, "a symmetric fan", symmetric, api.OK, fanM(), api.OK)
}

// R6: the lists are ascending, and of several completions the first one is returned.
func TestSmallerList(t *testing.T) {
	everyFan(func(f fan.Fan) {
		for kind := 1; kind <= f.Kinds; kind++ {
			free, _ := fan.Free(f, kind)
			crossed, _ := fan.Crossing(f, kind)
			if !slices.IsSorted(free) || !slices.IsSorted(crossed) {
				t.Errorf("%v: %d: Free: %v, Crossing: %v", f, kind, free, crossed)
			}
		}
	})
	f, e := fan.Complete(empty(8, false))
	sameFan(t, "Complete of 8 kinds", f, e, fullFans(8, false)[0], api.OK)
	f, e = fan.Complete(empty(8, true))
	sameFan(t, "Complete of 8 kinds, wide", f, e, fullFans(8, true)[0], api.OK)
}

// R7: bounds include both ends.
func TestBothEnds(t *testing.T) {
	for kinds := range fan.MaxKinds + 2 {
		want := api.OK
		if kinds < 1 || kinds > fan.MaxKinds {
			want = api.ErrRange
		}
		_, can := fan.Can(kinds, true)
		if e := fan.Check(empty(kinds, false)); e != want || can != want {
			t.Errorf("%d kinds: Check: %d, Can: %d, want %d", kinds, e, can, want)
		}
		if want != api.OK {
			continue
		}
		_, low := fan.Free(empty(kinds, false), 0)
		_, first := fan.Free(empty(kinds, false), 1)
		_, last := fan.Free(empty(kinds, false), kinds)
		_, high := fan.Free(empty(kinds, false), kinds+1)
		if low != api.ErrNone || first != api.OK || last != api.OK || high != api.ErrNone {
			t.Errorf("kinds of %d: %d %d %d %d", kinds, low, first, last, high)
		}
		_, low = fan.Partner(empty(kinds, true), -1)
		_, first = fan.Partner(empty(kinds, true), 0)
		_, last = fan.Partner(empty(kinds, true), 2*kinds-1)
		_, high = fan.Partner(empty(kinds, true), 2*kinds)
		if low != api.ErrNone || first != api.ErrEmpty || last != api.ErrEmpty || high != api.ErrNone {
			t.Errorf("places of %d: %d %d %d %d", kinds, low, first, last, high)
		}
	}
}

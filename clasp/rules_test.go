package clasp_test

// The rules of DOC.md for this layer, which has no texts (R9), objects or files, and leaves nothing free (R8).

import (
	"math"
	"reflect"
	"slices"
	"testing"

	"aigrette/api"
	"aigrette/clasp"
)

// call is a function with arguments: its results, the error last.
type call struct {
	name    string
	results func() []any
}

func calls(from, to, way []int, a, b int) []call {
	p := clasp.Pair{First: from, Second: to}
	return []call{
		{"Check", func() []any { e := clasp.Check(from); return []any{e} }},
		{"Moves", func() []any { x, e := clasp.Moves(from); return []any{x, e} }},
		{"Move", func() []any { x, e := clasp.Move(from, a); return []any{x, e} }},
		{"Number", func() []any { x, e := clasp.Number(from); return []any{x, e} }},
		{"Position", func() []any { x, e := clasp.Position(a, b); return []any{x, e} }},
		{"Distance", func() []any { x, e := clasp.Distance(from, to); return []any{x, e} }},
		{"Next", func() []any { x, e := clasp.Next(from, to); return []any{x, e} }},
		{"Way", func() []any { x, e := clasp.Way(from, to); return []any{x, e} }},
		{"Leads", func() []any { e := clasp.Leads(from, to, way); return []any{e} }},
		{"Times", func() []any { x, e := clasp.Times(from, to); return []any{x, e} }},
		{"At", func() []any { x, e := clasp.At(from, to, b); return []any{x, e} }},
		{"Farthest", func() []any { x, y, e := clasp.Farthest(from); return []any{x, y, e} }},
		{"Together", func() []any { x, e := clasp.Together(p); return []any{x, e} }},
		{"Turns", func() []any { x, e := clasp.Turns(p); return []any{x, e} }},
	}
}

// everyArgument calls do with many combinations of arguments, most of them invalid.
func everyArgument(do func(from, to, way []int, a, b int)) {
	extreme := list(math.MinInt, -1, 0, 1, 2, 3, 15, 16, 17, 64, 65535, 65536, math.MaxInt)
	listsOf := [][]int{nil, list(), list(0), list(1), list(2), list(-1), list(math.MinInt), list(0, math.MaxInt), list(1, 1), list(0, 1), list(1, 0, 1), list(0, 0, 1), all(6, 1), all(6, 0), only(6, 5), all(7, 1), all(16, 1), all(16, 0), only(16, 15), only(16, 14), all(17, 1), all(100, 0), list(0, 2, 0, 1, 0), list(1, 0, 2, 0, 1)}
	for i, from := range listsOf {
		for j, to := range listsOf {
			for k, a := range extreme {
				do(from, to, listsOf[(i+j+k)%len(listsOf)], a, extreme[(i+2*j+3*k)%len(extreme)])
			}
		}
	}
}

// P1, R5, F8: each call returns, and returns the same again.
func TestSameAgain(t *testing.T) {
	everyArgument(func(from, to, way []int, a, b int) {
		for _, call := range calls(from, to, way, a, b) {
			if one, two := call.results(), call.results(); !reflect.DeepEqual(one, two) {
				t.Errorf("%s(%v, %v, %v, %d, %d): %v, then %v", call.name, from, to, way, a, b, one, two)
			}
		}
	})
}

// R1: where several errors apply, the one that the chapter names first counts.
func TestFirstError(t *testing.T) {
	long := append(list(2), all(16, 1)...)
	_, ringOfWrong := clasp.Move(list(2), 5)
	_, none := clasp.Move(list(0, 0), 2)
	_, shape := clasp.Next(list(2), list(0, 0))
	_, second := clasp.Next(list(1), all(17, 1))
	_, lost := clasp.Next(list(1), list(1, 0))
	_, many := clasp.Way(all(16, 1), all(15, 0))
	_, at := clasp.At(list(1), list(1, 0), -1)
	_, range2 := clasp.Turns(clasp.Pair{First: all(7, 1), Second: list(5)})
	for _, x := range []struct {
		name      string
		got, want api.Errno
	}{
		{"many before range", clasp.Check(long), api.ErrMany},
		{"the position before the ring", ringOfWrong, api.ErrRange},
		{"none before shut", none, api.ErrNone},
		{"the first position before the shape", shape, api.ErrRange},
		{"the second position before the shape", second, api.ErrMany},
		{"shape before lost", lost, api.ErrShape},
		{"shape before many", many, api.ErrShape},
		{"shape before range", at, api.ErrShape},
		{"shape before the way", clasp.Leads(list(1), list(1, 0), list(9)), api.ErrShape},
		{"the first ring with an error counts: shut", clasp.Leads(list(0, 0), list(0, 0), list(1, 9)), api.ErrShut},
		{"the first ring with an error counts: none", clasp.Leads(list(0, 0), list(0, 0), list(9, 1)), api.ErrNone},
		{"rings before the end of the way", clasp.Leads(list(0, 0), list(1, 1), list(0, 2)), api.ErrNone},
		{"both positions before too many rings of a pair", range2, api.ErrRange},
	} {
		if x.got != x.want {
			t.Errorf("%s: %d, want %d", x.name, x.got, x.want)
		}
	}
}

// zero tells whether a result is a zero value, or a list without elements.
func zero(result any) bool {
	v := reflect.ValueOf(result)
	return v.IsZero() || v.Kind() == reflect.Slice && v.Len() == 0
}

// R2: besides an error all results are zero values.
func TestZeroBesidesError(t *testing.T) {
	everyArgument(func(from, to, way []int, a, b int) {
		for _, call := range calls(from, to, way, a, b) {
			results := call.results()
			last := len(results) - 1
			if results[last] != api.OK && slices.ContainsFunc(results[:last], func(r any) bool { return !zero(r) }) {
				t.Errorf("%s(%v, %v, %v, %d, %d): %v", call.name, from, to, way, a, b, results)
			}
		}
	})
}

// R3: a list without elements is the same if it is nil.
func TestEmptyLists(t *testing.T) {
	one, other := calls(nil, nil, nil, 0, 0), calls(list(), list(), list(), 0, 0)
	for i, call := range one {
		if a, b := call.results(), other[i].results(); !reflect.DeepEqual(a, b) {
			t.Errorf("%s: %v and %v", call.name, a, b)
		}
	}
	for _, to := range [][]int{list(1, 0), list(1, 1)} {
		if a, b := clasp.Leads(list(1, 0), to, nil), clasp.Leads(list(1, 0), to, list()); a != b {
			t.Errorf("Leads: %d and %d", a, b)
		}
	}
}

// R4: arguments are not changed, and a changed result changes neither them nor later results.
func TestOwnMemory(t *testing.T) {
	roomOfFrom, roomOfTo, roomOfWay := list(1, 0, 1, 77), list(0, 1, 0, 78), list(1, 0, 2, 79)
	from, to, way := roomOfFrom[:3], roomOfTo[:3], roomOfWay[:3]
	for _, call := range calls(from, to, way, 1, 1) {
		before, changed := call.results(), call.results()
		if before[len(before)-1] != api.OK {
			t.Errorf("%s: %v", call.name, before)
		}
		if l, ok := changed[0].([]int); ok {
			for i := range l {
				l[i] = 99
			}
		}
		if again := call.results(); !reflect.DeepEqual(again, before) {
			t.Errorf("%s: %v, then %v", call.name, before, again)
		}
		if !slices.Equal(roomOfFrom, list(1, 0, 1, 77)) || !slices.Equal(roomOfTo, list(0, 1, 0, 78)) || !slices.Equal(roomOfWay, list(1, 0, 2, 79)) {
			t.Fatalf("%s changed an argument: %v %v %v", call.name, roomOfFrom, roomOfTo, roomOfWay)
		}
	}
}

// R4: the results that could be an argument again are lists of their own.
func TestResultsAreNoArguments(t *testing.T) {
	from, to := list(1, 1), list(0, 1)
	start, _ := clasp.At(from, to, 0)
	end, _ := clasp.At(from, to, 1)
	moved, _ := clasp.Move(from, 0)
	far, _, _ := clasp.Farthest(from)
	for _, l := range [][]int{start, end, moved, far} {
		l[0], l[1] = 5, 6
	}
	if !slices.Equal(from, list(1, 1)) || !slices.Equal(to, list(0, 1)) {
		t.Errorf("%v %v", from, to)
	}
}

// R6: the lists are ascending, and of several lists the first one is returned.
func TestSmallerList(t *testing.T) {
	l, e := clasp.Moves(only(5, 3))
	same(t, "Moves", l, e, list(0, 4), api.OK)
	// Second has six moves, and needs two: it goes 0, 0, 0, 0, 1, 0 between those of First.
	l, e = clasp.Turns(clasp.Pair{First: list(0, 0, 1), Second: list(1, 1)})
	same(t, "Turns", l, e, list(0, 0, 1, 0, 0, 0, 2, 0, 0, 1, 1, 0, 0), api.OK)
}

// R7: bounds include both ends.
func TestBothEnds(t *testing.T) {
	for rings := range clasp.MaxRings + 2 {
		want := api.OK
		if rings < 1 || rings > clasp.MaxRings {
			want = api.ErrRange
		}
		if _, e := clasp.Position(rings, 0); e != want {
			t.Errorf("Position of %d rings: %d, want %d", rings, e, want)
		}
		if want != api.OK {
			continue
		}
		_, low := clasp.Position(rings, -1)
		_, high := clasp.Position(rings, 1<<rings-1)
		_, over := clasp.Position(rings, 1<<rings)
		if low != api.ErrRange || high != api.OK || over != api.ErrRange {
			t.Errorf("Position of %d rings: %d %d %d", rings, low, high, over)
		}
	}
}

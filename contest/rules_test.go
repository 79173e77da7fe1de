package contest_test

// The rules of DOC.md for this layer, which has no texts (R9), objects or files.

import (
	"math"
	"reflect"
	"slices"
	"testing"

	"aigrette/api"
	"aigrette/contest"
)

// call is a function with arguments: its results, the error last.
type call struct {
	name    string
	results func() []any
}

func calls(c contest.Contest, a, b int, scores, curlers []int) []call {
	return []call{
		{"Check", func() []any { e := contest.Check(c); return []any{e} }},
		{"Scores", func() []any { x, e := contest.Scores(c); return []any{x, e} }},
		{"Best", func() []any { x, e := contest.Best(c); return []any{x, e} }},
		{"Chain", func() []any { x, e := contest.Chain(c, a, b); return []any{x, e} }},
		{"Row", func() []any { x, e := contest.Row(c); return []any{x, e} }},
		{"Rows", func() []any { x, e := contest.Rows(c); return []any{x, e} }},
		{"Groups", func() []any { x, e := contest.Groups(c); return []any{x, e} }},
		{"Ring", func() []any { x, e := contest.Ring(c); return []any{x, e} }},
		{"Threes", func() []any { x, e := contest.Threes(c); return []any{x, e} }},
		{"Against", func() []any { x, e := contest.Against(scores); return []any{x, e} }},
		{"Proves", func() []any { e := contest.Proves(scores, curlers); return []any{e} }},
		{"From", func() []any { x, e := contest.From(scores); return []any{x, e} }},
	}
}

// everyArgument calls do with many combinations of arguments, most of them invalid.
func everyArgument(do func(c contest.Contest, a, b int, scores, curlers []int)) {
	extreme := list(math.MinInt, -1, 0, 1, 2, 3, 7, 8, math.MaxInt)
	var contests []contest.Contest
	for _, curlers := range extreme {
		contests = append(contests, made(curlers))
		for _, won := range extreme {
			for _, lost := range extreme {
				contests = append(contests, made(curlers, won, lost), made(curlers, 0, 1, 1, 2, won, lost))
			}
		}
	}
	contests = append(contests, exampleC(), exampleD(), numbered(7, 4711), numbered(7, 0), numbered(8, 0))
	listsOf := lists(nil, list(), list(0), list(1), list(0, 1), list(1, 1), list(1, 1, 1), list(0, 0, 3, 3), list(3, 3, 0, 0), list(math.MinInt), list(math.MaxInt, math.MaxInt), list(3, 3, 3, 3, 3, 3, 3), make([]int, 8), list(0, 1, 2, 3, 4, 5, 6))
	for i, c := range contests {
		do(c, extreme[i%9], extreme[i/9%9], listsOf[i%14], listsOf[i/14%14])
	}
}

// P1, R5, F8: each call returns, and returns the same again.
func TestSameAgain(t *testing.T) {
	everyArgument(func(c contest.Contest, a, b int, scores, curlers []int) {
		for _, call := range calls(c, a, b, scores, curlers) {
			if one, two := call.results(), call.results(); !reflect.DeepEqual(one, two) {
				t.Errorf("%s(%v, %d, %d, %v, %v): %v, then %v", call.name, c, a, b, scores, curlers, one, two)
			}
		}
	})
}

// R1: where several errors apply, the one that the chapter names first counts.
func TestFirstError(t *testing.T) {
	_, lost := contest.Chain(made(2), 5, 5)
	for _, x := range []struct {
		name      string
		got, want api.Errno
	}{
		{"range before meetings", contest.Check(made(8, 0, 0)), api.ErrRange},
		{"none before clash in one meeting", contest.Check(made(2, 2, 2)), api.ErrNone},
		{"clash before open", contest.Check(made(3, 2, 2)), api.ErrClash},
		{"the first meeting counts", contest.Check(made(3, 0, 1, 1, 0, 4, 4)), api.ErrTwice},
		{"the contest before the curlers of a chain", lost, api.ErrOpen},
		{"many before range", contest.Proves(list(9, 9, 9, 9, 9, 9, 9, 9), nil), api.ErrMany},
		{"range before sum", contest.Proves(list(2, 0), nil), api.ErrRange},
		{"scores before curlers", contest.Proves(list(1, 1), list(7)), api.ErrSum},
		{"none before order in one curler", contest.Proves(list(1, 1, 1), list(2, -1)), api.ErrNone},
		{"the first curler counts", contest.Proves(list(1, 1, 1), list(2, 1, -1)), api.ErrOrder},
		{"order before proof", contest.Proves(list(1, 1, 1), list(1, 0)), api.ErrOrder},
	} {
		if x.got != x.want {
			t.Errorf("%s: %d, want %d", x.name, x.got, x.want)
		}
	}
}

// zero tells whether a result is a zero value, or a list without elements.
func zero(result any) bool {
	v := reflect.ValueOf(result)
	return v.IsZero() || v.Kind() == reflect.Slice && v.Len() == 0
}

// R2: besides an error all results are zero values.
func TestZeroBesidesError(t *testing.T) {
	everyArgument(func(c contest.Contest, a, b int, scores, curlers []int) {
		for _, call := range calls(c, a, b, scores, curlers) {
			results := call.results()
			last := len(results) - 1
			if results[last] != api.OK && slices.ContainsFunc(results[:last], func(r any) bool { return !zero(r) }) {
				t.Errorf("%s(%v, %d, %d, %v): %v", call.name, c, a, b, scores, results)
			}
		}
	})
}

// R3: a list without elements is the same if it is nil.
func TestEmptyLists(t *testing.T) {
	one := calls(made(1), 0, 0, nil, nil)
	other := calls(contest.Contest{Curlers: 1, Meetings: []contest.Meeting{}}, 0, 0, list(), list())
	for i, call := range one {
		if a, b := call.results(), other[i].results(); !reflect.DeepEqual(a, b) {
			t.Errorf("%s: %v and %v", call.name, a, b)
		}
	}
	if a, b := contest.Proves(list(1, 1, 1), nil), contest.Proves(list(1, 1, 1), list()); a != b {
		t.Errorf("Proves: %d and %d", a, b)
	}
}

// R4: arguments are not changed, and a changed result changes neither them nor later results.
func TestOwnMemory(t *testing.T) {
	c := exampleD()
	c.Meetings = append(c.Meetings, contest.Meeting{Won: 77, Lost: 78})[:6]
	roomOfScores, roomOfCurlers := list(0, 3, 0, 3, 79), list(0, 2, 80)
	scores, curlers := roomOfScores[:4], roomOfCurlers[:2]
	kept := append(slices.Clone(c.Meetings), contest.Meeting{Won: 77, Lost: 78})
	for _, call := range append(calls(c, 2, 1, scores, curlers), calls(c, 2, 1, list(1, 2, 2, 1), curlers)...) {
		before, changed := call.results(), call.results()
		switch x := changed[0].(type) {
		case []int:
			clear(x)
		case [][]int:
			for i := range x {
				clear(x[i])
			}
			clear(x)
		case contest.Contest:
			clear(x.Meetings)
		}
		if again := call.results(); !reflect.DeepEqual(again, before) {
			t.Errorf("%s: %v, then %v", call.name, before, again)
		}
		if !slices.Equal(c.Meetings[:7], kept) || !slices.Equal(roomOfScores, list(0, 3, 0, 3, 79)) || !slices.Equal(roomOfCurlers, list(0, 2, 80)) {
			t.Fatalf("%s changed an argument: %v %v %v", call.name, c.Meetings[:7], roomOfScores, roomOfCurlers)
		}
	}
}

// R4: the groups share no memory with each other.
func TestGroupsShareNothing(t *testing.T) {
	groups, _ := contest.Groups(made(4, 0, 1, 0, 2, 0, 3, 1, 2, 1, 3, 2, 3))
	for i := range groups {
		groups[i] = append(groups[i], 90+i)
	}
	if want := lists(list(0, 90), list(1, 91), list(2, 92), list(3, 93)); !equalLists(groups, want) {
		t.Errorf("%v, want %v", groups, want)
	}
}

// R6: of several lists the first one is returned.
func TestSmallerList(t *testing.T) {
	// 0 beat 1, 2 and 3, who all beat 4, who beat 0: three chains from 0 to 4, and from 4 to each of them.
	c := made(5, 0, 3, 0, 2, 0, 1, 3, 4, 2, 4, 1, 4, 4, 0, 1, 2, 2, 3, 3, 1)
	if chain, e := contest.Chain(c, 0, 4); e != api.OK || !slices.Equal(chain, list(0, 1, 4)) {
		t.Errorf("Chain: %v %d", chain, e)
	}
	if proof, e := contest.Against(list(4, 0, 4, 0, 0, 4, 3)); e != api.ErrSum {
		t.Errorf("Against: %v %d", proof, e)
	}
	if proof, e := contest.Against(list(5, 0, 5, 0, 0, 5)); e != api.OK || !slices.Equal(proof, list(1, 3)) {
		t.Errorf("Against: %v %d", proof, e)
	}
	// A shorter proof is better than a smaller list.
	if proof, e := contest.Against(list(1, 1, 0, 4, 4)); e != api.OK || !slices.Equal(proof, list(0, 1, 2)) {
		t.Errorf("Against: %v %d", proof, e)
	}
	if proof, e := contest.Against(list(1, 1, 5, 5, 0, 3)); e != api.OK || !slices.Equal(proof, list(0, 1, 4)) {
		t.Errorf("Against: %v %d", proof, e)
	}
	if proof, e := contest.Against(list(1, 5, 5, 5, 0, 0, 5)); e != api.OK || !slices.Equal(proof, list(4, 5)) {
		t.Errorf("Against: %v %d", proof, e)
	}
}

// R7: bounds include both ends.
func TestBothEnds(t *testing.T) {
	for curlers := range contest.MaxCurlers + 2 {
		want := api.OK
		if curlers < 1 || curlers > contest.MaxCurlers {
			want = api.ErrRange
		}
		if e := contest.Check(numbered(curlers, 0)); e != want {
			t.Errorf("%d curlers: %d, want %d", curlers, e, want)
		}
	}
	if _, e := contest.From(list(0, 1, 2, 3, 4, 5, 6)); e != api.OK {
		t.Errorf("scores from 0 to 6: %d", e)
	}
}

// R8: which contest From makes is free, but it is a contest, with these scores, and the same each time.
func TestFree(t *testing.T) {
	for _, scores := range allScores(4) {
		c, e := contest.From(scores)
		if e != api.OK {
			continue
		}
		got, f := contest.Scores(c)
		again, _ := contest.From(scores)
		if contest.Check(c) != api.OK || f != api.OK || !slices.Equal(got, scores) || !reflect.DeepEqual(c, again) {
			t.Errorf("From of %v: %v, then %v", scores, c, again)
		}
	}
}

package branch_test

// The rules of DOC.md for this layer, which has no objects or files; its strings are free (R8), so nothing but
// their being equal is looked at.

import (
	"math"
	"reflect"
	"slices"
	"testing"

	"aigrette/api"
	"aigrette/branch"
)

// call is a function with arguments: its results, the error last.
type call struct {
	name    string
	results func() []any
}

// callsOfTree returns the calls of all functions of a tree.
func callsOfTree(x branch.Tree, number int, with [2]int) []call {
	return []call{
		{"Check", func() []any { e := branch.Check(x); return []any{e} }},
		{"Tidy", func() []any { y, e := branch.Tidy(x); return []any{y, e} }},
		{"Write", func() []any { y, e := branch.Write(x); return []any{y, e} }},
		{"Number", func() []any { y, e := branch.Number(x); return []any{y, e} }},
		{"Degrees", func() []any { y, e := branch.Degrees(x); return []any{y, e} }},
		{"Way", func() []any { y, e := branch.Way(x, with[0], with[1]); return []any{y, e} }},
		{"Reach", func() []any { y, e := branch.Reach(x); return []any{y, e} }},
		{"Middle", func() []any { y, e := branch.Middle(x); return []any{y, e} }},
		{"Rounds", func() []any { y, e := branch.Rounds(x); return []any{y, e} }},
		{"Swap", func() []any { y, e := branch.Swap(x, number, with); return []any{y, e} }},
		{"Shape", func() []any { y, e := branch.Shape(x); return []any{y, e} }},
		{"Alike", func() []any { y, e := branch.Alike(x, x); return []any{y, e} }},
	}
}

// callOfAlike returns the call of Alike.
func callOfAlike(x, y branch.Tree) call {
	return call{"Alike", func() []any { is, e := branch.Alike(x, y); return []any{is, e} }}
}

// callsOfList returns the calls of all functions of a list.
func callsOfList(knots int, l []int) []call {
	return []call{
		{"Read", func() []any { x, e := branch.Read(knots, l); return []any{x, e} }},
		{"With", func() []any { n, e := branch.With(l); return []any{n, e} }},
	}
}

// callsOfNumbers returns the calls of all functions of numbers alone.
func callsOfNumbers(knots, number int) []call {
	return []call{
		{"Count", func() []any { n, e := branch.Count(knots); return []any{n, e} }},
		{"Nth", func() []any { x, e := branch.Nth(knots, number); return []any{x, e} }},
	}
}

// extreme returns numbers of which most are out of bounds.
func extreme() []int {
	return list(math.MinInt, -1<<32, -9, -1, 0, 1, 2, 3, 4, 8, 9, 10, 125, 4782968, 4782969, 1<<32, 1<<62, math.MaxInt)
}

// manyTrees returns trees, and some that are none.
func manyTrees() []branch.Tree {
	trees := []branch.Tree{exampleS(), exampleP(), comb(), {}}
	for _, x := range wrong() {
		trees = append(trees, x.tree)
	}
	for knots := 1; knots <= 9; knots++ {
		trees = append(trees, chain(knots), star(knots, knots/2))
		for seed := range 3 {
			trees = append(trees, drawnTree(knots, seed))
		}
	}
	return trees
}

// manyLists returns lists of knots and of degrees, and some that are none.
func manyLists() [][]int {
	all := slices.Concat(listsOf(1, extreme()...), listsOf(2, extreme()...), lists(nil, extreme(), times(7, 8), times(8, 0)))
	for _, x := range wrongLists() {
		all = append(all, x.list)
	}
	for knots := 3; knots <= 9; knots++ {
		for seed := range 5 {
			all = append(all, drawnList(knots, seed), degreesOf(drawnTree(knots, seed)))
		}
	}
	return all
}

// everyCall calls do with the calls of all functions with many arguments, many of them invalid.
func everyCall(do func(call call, arguments ...any)) {
	for i, x := range manyTrees() {
		for j, a := range extreme() {
			for k, b := range extreme() {
				number := extreme()[(i+j+k)%len(extreme())]
				for _, call := range callsOfTree(x, number, [2]int{a, b}) {
					do(call, x, number, a, b)
				}
			}
		}
		for _, y := range manyTrees() {
			do(callOfAlike(x, y), x, y)
		}
	}
	for _, l := range manyLists() {
		for _, knots := range extreme() {
			for _, call := range callsOfList(knots, l) {
				do(call, knots, l)
			}
		}
	}
	for _, knots := range extreme() {
		for _, number := range extreme() {
			for _, call := range callsOfNumbers(knots, number) {
				do(call, knots, number)
			}
		}
	}
}

// P1, R5, F8: each call returns, and returns the same again.
func TestSameAgain(t *testing.T) {
	everyCall(func(call call, arguments ...any) {
		if one, two := call.results(), call.results(); !reflect.DeepEqual(one, two) {
			t.Errorf("%s%v: %v, then %v", call.name, arguments, one, two)
		}
	})
}

// R1: where several errors apply, the one that the chapter names first counts.
func TestFirstError(t *testing.T) {
	_, write := branch.Write(tree(10, 0, 10, 1, 1))
	_, read := branch.Read(10, list(-1))
	_, shape := branch.Read(4, list(9, 9, 9))
	_, way := branch.Way(tree(2), 2, -1)
	_, swap := branch.Swap(tree(2, 0, 1, 1, 0), 9, [2]int{9, 9})
	_, tie := branch.Swap(exampleS(), 3, [2]int{0, 4})
	_, none := branch.Swap(exampleS(), 0, [2]int{4, 4})
	_, clash := branch.Swap(exampleS(), 0, [2]int{3, 3})
	_, with := branch.With(times(10, -1))
	_, degree := branch.With(list(2, 2))
	_, nth := branch.Nth(0, -1)
	_, one := branch.Alike(tree(2), tree(0))
	_, other := branch.Alike(tree(3, 1, 1), tree(2, 1, 2))
	for _, x := range []struct {
		name      string
		got, want api.Errno
	}{
		{"range before none", branch.Check(tree(0, 0, 1)), api.ErrRange},
		{"none before clash", branch.Check(tree(2, 2, 2)), api.ErrNone},
		{"none before twice", branch.Check(tree(2, 0, 1, 1, 2)), api.ErrNone},
		{"clash before many", branch.Check(tree(2, 0, 1, 1, 1)), api.ErrClash},
		{"twice before many", branch.Check(tree(2, 0, 1, 1, 0)), api.ErrTwice},
		{"clash of the first tie before none of the second one", branch.Check(tree(2, 1, 1, 0, 2)), api.ErrClash},
		{"twice of the second tie before none of the third one", branch.Check(tree(3, 0, 1, 1, 0, 0, 3)), api.ErrTwice},
		{"many before open", branch.Check(tree(4, 0, 1, 1, 2, 0, 2, 1, 0)), api.ErrTwice},
		{"many before open, without a tie that is there twice", branch.Check(tree(5, 0, 1, 0, 2, 0, 3, 1, 2, 1, 3)), api.ErrMany},
		{"none before open", branch.Check(tree(9, 0, 9)), api.ErrNone},
		{"the error of Check in Write", write, api.ErrRange},
		{"range before shape of Read", read, api.ErrRange},
		{"shape before none of Read", shape, api.ErrShape},
		{"the error of Check before that of a way", way, api.ErrOpen},
		{"the error of Check before those of Swap", swap, api.ErrTwice},
		{"the range of a tie before its knots", tie, api.ErrRange},
		{"none before clash of Swap", none, api.ErrNone},
		{"clash before lost of Swap", clash, api.ErrClash},
		{"range before none of With", with, api.ErrRange},
		{"none before sum of With", degree, api.ErrNone},
		{"range of knots and number", nth, api.ErrRange},
		{"the first tree before the second one", one, api.ErrOpen},
		{"the first tree before the second one", other, api.ErrClash},
	} {
		sameError(t, x.name, x.got, x.want)
	}
}

// zero tells whether a result is a zero value, or a list without elements.
func zero(result any) bool {
	v := reflect.ValueOf(result)
	return v.IsZero() || v.Kind() == reflect.Slice && v.Len() == 0
}

// R2: besides an error all results are zero values.
func TestZeroBesidesError(t *testing.T) {
	everyCall(func(call call, arguments ...any) {
		results := call.results()
		last := len(results) - 1
		if results[last] != api.OK && slices.ContainsFunc(results[:last], func(r any) bool { return !zero(r) }) {
			t.Errorf("%s%v: %v", call.name, arguments, results)
		}
	})
}

// alike tells whether results are equal, lists without elements among them.
func alike(one, other any) bool {
	if x, ok := one.(branch.Tree); ok {
		return isSame(x, other.(branch.Tree))
	}
	return reflect.DeepEqual(one, other) || reflect.TypeOf(one).Kind() == reflect.Slice && zero(one) && zero(other)
}

// R3: lists without elements are equal, nil or not: trees without ties, and lists of one or two knots.
func TestEmptyLists(t *testing.T) {
	for _, knots := range extreme() {
		none, empty := branch.Tree{Knots: knots}, branch.Tree{Knots: knots, Ties: [][2]int{}}
		ones := append(callsOfTree(none, 0, [2]int{}), callsOfList(knots, nil)...)
		others := append(callsOfTree(empty, 0, [2]int{}), callsOfList(knots, list())...)
		ones = append(ones, callOfAlike(none, exampleS()), callOfAlike(exampleS(), none), callOfAlike(none, empty))
		others = append(others, callOfAlike(empty, exampleS()), callOfAlike(exampleS(), empty), callOfAlike(empty, none))
		for i, call := range ones {
			if one, other := call.results(), others[i].results(); !slices.EqualFunc(one, other, alike) {
				t.Errorf("R3: %s of %d: %v, %v", call.name, knots, one, other)
			}
		}
	}
}

// overwrite changes all elements of a result, and what is behind them in its memory.
func overwrite(result any) {
	switch l := result.(type) {
	case []int:
		l = l[:cap(l)]
		for i := range l {
			l[i] = 77
		}
	case [][]int:
		// one of the lists alone, so that the others show what they share with it
		if len(l) > 0 {
			overwrite(l[0])
		}
	case branch.Tree:
		ties := l.Ties[:cap(l.Ties)]
		for i := range ties {
			ties[i] = [2]int{77, 78}
		}
	}
}

// roomyTree returns a copy of a tree with room behind its ties.
func roomyTree(x branch.Tree) branch.Tree {
	return branch.Tree{Knots: x.Knots, Ties: append(make([][2]int, 0, len(x.Ties)+5), x.Ties...)}
}

// checkOwnResults checks that none of the results of a call changes those of another one.
func checkOwnResults(t *testing.T, call call, arguments ...any) {
	t.Helper()
	before, earlier := call.results(), call.results()
	for _, result := range call.results() {
		overwrite(result)
	}
	if again := call.results(); !reflect.DeepEqual(again, before) || !reflect.DeepEqual(earlier, before) {
		t.Errorf("R4: %s%v: %v, then %v", call.name, arguments, before, again)
	}
}

// R4: of trees.
func TestOwnMemoryOfTrees(t *testing.T) {
	for i, x := range manyTrees() {
		x = roomyTree(x)
		given := slices.Clone(x.Ties[:cap(x.Ties)])
		for tie := range 4 {
			for _, call := range callsOfTree(x, tie, [2]int{i % 4, tie}) {
				checkOwnResults(t, call, x, tie)
				if !slices.Equal(given, x.Ties[:cap(x.Ties)]) {
					t.Fatalf("R4: %s changed its argument: %v, then %v", call.name, given, x.Ties[:cap(x.Ties)])
				}
			}
		}
	}
}

// R4: of lists.
func TestOwnMemoryOfLists(t *testing.T) {
	for _, l := range manyLists() {
		l = append(make([]int, 0, len(l)+5), l...)
		given := slices.Clone(l[:cap(l)])
		for _, call := range callsOfList(len(l)+2, l) {
			checkOwnResults(t, call, l)
			if !slices.Equal(given, l[:cap(l)]) {
				t.Fatalf("R4: %s changed its argument: %v, then %v", call.name, given, l[:cap(l)])
			}
		}
	}
	for knots := range 10 {
		for _, call := range callsOfNumbers(knots, knots/2) {
			checkOwnResults(t, call, knots)
		}
	}
}

// R4: the rounds share no memory with each other.
func TestOwnMemoryOfRounds(t *testing.T) {
	someTrees(func(x branch.Tree) {
		wanted := checked[[][]int](t, "Rounds")(branch.Rounds(x))
		for i := range wanted {
			rounds := checked[[][]int](t, "Rounds")(branch.Rounds(x))
			overwrite(rounds[i])
			for j, round := range rounds {
				if j != i {
					same(t, "R4: a round", round, api.OK, wanted[j], api.OK)
				}
			}
		}
	})
}

// R4: two arguments may share their memory.
func TestSharedArguments(t *testing.T) {
	ties := chain(5).Ties
	one, other := branch.Tree{Knots: 4, Ties: ties[:3]}, branch.Tree{Knots: 5, Ties: ties}
	is, e := branch.Alike(one, other)
	sameTruth(t, "Alike of shared memory", is, e, false, api.OK)
	is, e = branch.Alike(other, other)
	sameTruth(t, "Alike of the same memory", is, e, true, api.OK)
	if !slices.Equal(ties, chain(5).Ties) {
		t.Errorf("R4: the arguments: %v", ties)
	}
}

// R6: ties, middles and rounds ascend, and so do the lists of trees with ascending numbers.
func TestAscending(t *testing.T) {
	someTrees(func(x branch.Tree) {
		tidy := tidyOf(t, x)
		for i, tie := range tidy.Ties {
			if tie[0] >= tie[1] || i > 0 && slices.Compare(tidy.Ties[i-1][:], tie[:]) >= 0 {
				t.Errorf("R6: Tidy of %v: %v", x, tidy)
			}
		}
		for _, l := range append(checked[[][]int](t, "Rounds")(branch.Rounds(x)), middleOf(t, x)) {
			if !slices.IsSorted(l) {
				t.Errorf("R6: %v: %v", x, l)
			}
		}
	})
}

// R7: bounds include both ends.
func TestBothEnds(t *testing.T) {
	for knots := -2; knots <= 12; knots++ {
		wanted := api.OK
		if knots < 1 || knots > branch.MaxKnots {
			wanted = api.ErrRange
		}
		_, count := branch.Count(knots)
		_, nth := branch.Nth(knots, 0)
		_, read := branch.Read(knots, times(max(knots-2, 0), 0))
		_, with := branch.With(degreesOf(chain(max(knots, 0))))
		if check := branch.Check(chain(knots)); check != wanted || count != wanted || nth != wanted || read != wanted || with != wanted {
			t.Errorf("R7: %d: %d %d %d %d %d, want %d", knots, check, count, nth, read, with, wanted)
		}
	}
	for number := -2; number <= 18; number++ {
		if _, e := branch.Nth(4, number); (number < 0 || number > 15) != (e == api.ErrRange) {
			t.Errorf("R7: Nth of 4, %d: %d", number, e)
		}
		for knot := range 4 {
			if _, e := branch.Way(exampleP(), number, knot); (number < 0 || number > 3) != (e == api.ErrNone) {
				t.Errorf("R7: Way of P: %d, %d: %d", number, knot, e)
			}
		}
		if _, e := branch.Swap(exampleP(), number, [2]int{1, 2}); (number < 0 || number > 2) != (e == api.ErrRange) {
			t.Errorf("R7: Swap of P: %d: %d", number, e)
		}
	}
}

// The limits that the chapter names.
func TestLimits(t *testing.T) {
	if branch.MaxKnots != 9 {
		t.Errorf("MaxKnots: %d", branch.MaxKnots)
	}
}

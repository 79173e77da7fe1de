package hat_test

// The rules of DOC.md for this layer, which has no objects, texts or files, and leaves nothing free (R8).

import (
	"math"
	"reflect"
	"slices"
	"testing"

	"aigrette/api"
	"aigrette/hat"
)

// call is a function with arguments: its results, the error last.
type call struct {
	name    string
	results func() []any
}

// callsOfPlan returns the calls of all functions of a plan.
func callsOfPlan(p hat.Plan, colouring int) []call {
	return []call{
		{"Check", func() []any { e := hat.Check(p); return []any{e} }},
		{"Say", func() []any { x, e := hat.Say(p, colouring); return []any{x, e} }},
		{"Wins", func() []any { x, e := hat.Wins(p); return []any{x, e} }},
		{"Guesses", func() []any { x, y, e := hat.Guesses(p); return []any{x, y, e} }},
	}
}

// callsOfCode returns the calls of all functions of a code.
func callsOfCode(helpers int, code []int) []call {
	return []call{
		{"Times", func() []any { x, e := hat.Times(helpers, code); return []any{x, e} }},
		{"Bare", func() []any { x, e := hat.Bare(helpers, code); return []any{x, e} }},
		{"From", func() []any { x, e := hat.From(helpers, code); return []any{x, e} }},
	}
}

// callsOfNumbers returns the calls of all functions of numbers alone.
func callsOfNumbers(helpers, colouring, helper int) []call {
	return []call{
		{"Seen", func() []any { x, e := hat.Seen(helpers, colouring, helper); return []any{x, e} }},
		{"Perfect", func() []any { x, e := hat.Perfect(helpers); return []any{x, e} }},
		{"Nearest", func() []any { x, e := hat.Nearest(helpers, colouring); return []any{x, e} }},
		{"Best", func() []any { x, e := hat.Best(helpers); return []any{x, e} }},
		{"Most", func() []any { x, e := hat.Most(helpers); return []any{x, e} }},
	}
}

// extreme returns numbers of which most are out of bounds.
func extreme() []int {
	return list(math.MinInt, -128, -1, 0, 1, 2, 3, 4, 5, 6, 7, 8, 16, 63, 64, 65, 127, 128, 1<<32, 1<<62, math.MaxInt)
}

// manyPlans returns plans, and some that are not right.
func manyPlans() []hat.Plan {
	plans := []hat.Plan{exampleP(), {}}
	for _, x := range wrong() {
		plans = append(plans, x.plan)
	}
	for helpers := 1; helpers <= 7; helpers++ {
		for seed := range 4 {
			plans = append(plans, drawnPlan(helpers, seed))
		}
	}
	return plans
}

// manyCodes returns lists of numbers, most of which are codes of some helpers.
func manyCodes() [][]int {
	codes := slices.Concat(codesOf(2), lists(ascending(128), ascending(129), times(3, 1), extreme()))
	for _, x := range wrongCodes() {
		codes = append(codes, x.code)
	}
	for helpers := 3; helpers <= 7; helpers++ {
		for seed := range 9 {
			codes = append(codes, drawnCode(helpers, seed))
		}
	}
	return codes
}

// everyCall calls do with the calls of all functions with many arguments, many of them invalid.
func everyCall(do func(call call, arguments ...any)) {
	for _, p := range manyPlans() {
		for _, colouring := range extreme() {
			for _, call := range callsOfPlan(p, colouring) {
				do(call, p, colouring)
			}
		}
	}
	for _, code := range manyCodes() {
		for _, helpers := range extreme() {
			for _, call := range callsOfCode(helpers, code) {
				do(call, helpers, code)
			}
		}
	}
	for i, helpers := range extreme() {
		for j, colouring := range extreme() {
			helper := extreme()[(i+j)%len(extreme())]
			for _, call := range callsOfNumbers(helpers, colouring, helper) {
				do(call, helpers, colouring, helper)
			}
		}
	}
}

// P1, R5, F8: each call returns, and returns the same again.
func TestSameAgain(t *testing.T) {
	everyCall(func(call call, arguments ...any) {
		if one, two := call.results(), call.results(); !reflect.DeepEqual(one, two) {
			t.Errorf("%s%v: %v, then %v", call.name, arguments, one, two)
		}
	})
}

// R1: where several errors apply, the one that the chapter names first counts.
func TestFirstError(t *testing.T) {
	_, say := hat.Say(plan(1, list(3)), 9)
	_, colouring := hat.Say(plan(2, list(0), list(0)), -1)
	_, seen := hat.Seen(0, 9, 9)
	_, times := hat.Times(8, list(-1))
	_, bare := hat.Bare(2, list(3, 3, 4))
	_, from := hat.From(2, list(3, 4, 4))
	_, both := hat.Times(2, list(3, -1))
	_, perfect := hat.Perfect(8)
	_, nearest := hat.Nearest(8, 999)
	_, lost := hat.Nearest(4, 999)
	_, best := hat.Best(8)
	_, most := hat.Most(math.MaxInt)
	for _, x := range []struct {
		name      string
		got, want api.Errno
	}{
		{"the range of helpers before shape and range", hat.Check(plan(8, list(3))), api.ErrRange},
		{"the number of lists before what they say", hat.Check(plan(1, list(3), list(3))), api.ErrShape},
		{"the shape of a list before its range", hat.Check(plan(1, list(3, 3))), api.ErrShape},
		{"the range of the first list before the shape of the second one", hat.Check(plan(2, list(0, 3), nil)), api.ErrRange},
		{"the shape of the first list before the range of the second one", hat.Check(plan(2, nil, list(0, 3))), api.ErrShape},
		{"the plan's range before none", say, api.ErrRange},
		{"the plan's shape before none", colouring, api.ErrShape},
		{"range before none of Seen", seen, api.ErrRange},
		{"range before none of Times", times, api.ErrRange},
		{"order of the first element with an error", bare, api.ErrOrder},
		{"none of the first element with an error", from, api.ErrNone},
		{"none before order of one element", both, api.ErrNone},
		{"range before lost of Perfect", perfect, api.ErrRange},
		{"range before lost and none of Nearest", nearest, api.ErrRange},
		{"lost before none", lost, api.ErrLost},
		{"range before many of Best", best, api.ErrRange},
		{"range before many of Most", most, api.ErrRange},
	} {
		sameError(t, x.name, x.got, x.want)
	}
}

// zero tells whether a result is a zero value, or a list without elements.
func zero(result any) bool {
	v := reflect.ValueOf(result)
	return v.IsZero() || v.Kind() == reflect.Slice && v.Len() == 0
}

// R2: besides an error all results are zero values.
func TestZeroBesidesError(t *testing.T) {
	everyCall(func(call call, arguments ...any) {
		results := call.results()
		last := len(results) - 1
		if results[last] != api.OK && slices.ContainsFunc(results[:last], func(r any) bool { return !zero(r) }) {
			t.Errorf("%s%v: %v", call.name, arguments, results)
		}
	})
}

// R3: lists without elements are equal, nil or not: codes without colourings, and plans that are not right.
func TestEmptyLists(t *testing.T) {
	for helpers := -1; helpers <= 9; helpers++ {
		other := callsOfCode(helpers, list())
		for i, call := range callsOfCode(helpers, nil) {
			if one, two := call.results(), other[i].results(); !reflect.DeepEqual(one, two) {
				t.Errorf("%s of %d, no elements: %v, %v", call.name, helpers, one, two)
			}
		}
		for _, pair := range [][2]hat.Plan{
			{plan(helpers), {Helpers: helpers, Says: lists()}},
			{plan(helpers, nil), plan(helpers, list())},
			{plan(helpers, list(0, 0), nil), plan(helpers, list(0, 0), list())},
			{plan(helpers, nil, list(3)), plan(helpers, list(), list(3))},
		} {
			other := callsOfPlan(pair[1], 0)
			for i, call := range callsOfPlan(pair[0], 0) {
				if one, two := call.results(), other[i].results(); !reflect.DeepEqual(one, two) {
					t.Errorf("%s of %v: %v, %v", call.name, pair, one, two)
				}
			}
		}
	}
}

// overwrite changes all elements of a result, and what is behind them in its memory.
func overwrite(result any) {
	switch x := result.(type) {
	case []int:
		x = x[:cap(x)]
		for i := range x {
			x[i] = 77
		}
	case hat.Plan:
		says := x.Says[:cap(x.Says)]
		for i := range says {
			overwrite(says[i])
			says[i] = list(77)
		}
	}
}

// roomy returns a copy of a list with room behind it.
func roomy[T any](l []T) []T {
	return append(make([]T, 0, len(l)+3), l...)
}

// roomyPlan returns a copy of a plan with room behind its lists.
func roomyPlan(p hat.Plan) hat.Plan {
	p.Says = roomy(p.Says)
	for i := range p.Says {
		p.Says[i] = roomy(p.Says[i])
	}
	return p
}

// whole returns a copy of lists with what is behind them.
func whole(l [][]int) [][]int {
	l = slices.Clone(l[:cap(l)])
	for i := range l {
		l[i] = slices.Clone(l[i][:cap(l[i])])
	}
	return l
}

// checkOwnMemory checks that a call changes none of its arguments, and that a changed result changes neither
// arguments nor other results, earlier or later ones.
func checkOwnMemory(t *testing.T, call call, arguments [][]int) {
	t.Helper()
	given, before, earlier, changed := whole(arguments), call.results(), call.results(), call.results()
	overwrite(changed[0])
	if again := call.results(); !reflect.DeepEqual(again, before) || !reflect.DeepEqual(earlier, before) {
		t.Errorf("%s of %v: %v, then %v", call.name, arguments, before, again)
	}
	if !reflect.DeepEqual(given, whole(arguments)) {
		t.Errorf("%s changed its arguments: %v, then %v", call.name, given, whole(arguments))
	}
}

// R4.
func TestOwnMemory(t *testing.T) {
	for _, p := range manyPlans() {
		p = roomyPlan(p)
		for _, call := range callsOfPlan(p, 1) {
			checkOwnMemory(t, call, p.Says)
		}
	}
	for _, code := range manyCodes() {
		for helpers := 1; helpers <= 7; helpers++ {
			code = roomy(code)
			for _, call := range callsOfCode(helpers, code) {
				checkOwnMemory(t, call, lists(code))
			}
		}
	}
	for helpers := 1; helpers <= 7; helpers++ {
		for _, call := range callsOfNumbers(helpers, 1, 0) {
			checkOwnMemory(t, call, nil)
		}
	}
}

// R4: each list of a plan that is returned has memory of its own.
func TestOwnMemoryOfPlans(t *testing.T) {
	for helpers := 1; helpers <= 7; helpers++ {
		for _, code := range lists(nil, list(0), ascending(1<<helpers)) {
			for place := range helpers {
				p, _ := hat.From(helpers, code)
				want, _ := hat.From(helpers, code)
				overwrite(append(p.Says[place], 78))
				overwrite(p.Says[place])
				p.Says[place], want.Says[place] = nil, nil
				samePlan(t, "the other lists of From", p, api.OK, want, api.OK)
			}
		}
	}
}

// R6: codes and colourings are ascending.
func TestAscending(t *testing.T) {
	ascends := func(name string, l []int, e api.Errno) {
		t.Helper()
		if e == api.OK && (!slices.IsSorted(l) || len(slices.Compact(slices.Clone(l))) != len(l)) {
			t.Errorf("%s: %v", name, l)
		}
	}
	for _, p := range manyPlans() {
		l, e := hat.Wins(p)
		ascends("Wins", l, e)
	}
	for helpers := 1; helpers <= 7; helpers++ {
		for _, code := range manyCodes() {
			l, e := hat.Bare(helpers, code)
			ascends("Bare", l, e)
		}
		l, e := hat.Perfect(helpers)
		ascends("Perfect", l, e)
		l, e = hat.Best(helpers)
		ascends("Best", l, e)
	}
}

// R7: bounds include both ends.
func TestBothEnds(t *testing.T) {
	inside := func(number, first, last int, e api.Errno) api.Errno {
		if number < first || number > last {
			return e
		}
		return api.OK
	}
	for number := -2; number <= 140; number++ {
		wanted := inside(number, 1, hat.MaxHelpers, api.ErrRange)
		_, seen := hat.Seen(number, 0, 0)
		_, times := hat.Times(number, nil)
		_, bare := hat.Bare(number, nil)
		_, from := hat.From(number, nil)
		if seen != wanted || times != wanted || bare != wanted || from != wanted {
			t.Errorf("%d helpers: %d %d %d %d, want %d", number, seen, times, bare, from, wanted)
		}
		if wanted == api.OK {
			wanted = inside(number, 1, hat.MaxSearch, api.ErrMany)
		}
		_, best := hat.Best(number)
		_, most := hat.Most(number)
		if best != wanted || most != wanted {
			t.Errorf("%d helpers: %d %d, want %d", number, best, most, wanted)
		}
		wanted = inside(number, 0, 127, api.ErrNone)
		_, seen = hat.Seen(7, number, 6)
		_, say := hat.Say(saying(7, hat.Pass), number)
		_, nearest := hat.Nearest(7, number)
		_, times = hat.Times(7, list(number))
		if seen != wanted || say != wanted || nearest != wanted || times != wanted {
			t.Errorf("the colouring %d: %d %d %d %d, want %d", number, seen, say, nearest, times, wanted)
		}
		_, seen = hat.Seen(5, 0, number)
		sameError(t, "a helper", seen, inside(number, 0, 4, api.ErrNone))
		sameError(t, "what is said", hat.Check(plan(1, list(number))), inside(number, 0, 2, api.ErrRange))
	}
}

// The limits and the colours are those of the chapter.
func TestConstants(t *testing.T) {
	if hat.MaxHelpers != 7 || hat.MaxSearch != 4 || hat.White != 0 || hat.Black != 1 || hat.Pass != 2 {
		t.Error("a constant is not the chapter's")
	}
}

package hat_test

// P10.1 to P10.7, and the table of examples.

import (
	"math"
	"slices"
	"testing"

	"aigrette/api"
	"aigrette/hat"
)

func list(l ...int) []int { return l }

func lists(l ...[]int) [][]int { return l }

// times returns a list of the same number.
func times(often, number int) []int { return slices.Repeat(list(number), often) }

// ascending returns the numbers from 0 on, so many of them.
func ascending(count int) []int {
	numbers := make([]int, count)
	for i := range numbers {
		numbers[i] = i
	}
	return numbers
}

func plan(helpers int, says ...[]int) hat.Plan { return hat.Plan{Helpers: helpers, Says: says} }

// saying returns the plan in which everybody always says the same.
func saying(helpers, said int) hat.Plan {
	p := plan(helpers)
	for range helpers {
		p.Says = append(p.Says, times(1<<(helpers-1), said))
	}
	return p
}

// exampleP is P of the table of examples.
func exampleP() hat.Plan { return plan(2, list(1, 1), list(2, 2)) }

func sameError(t *testing.T, name string, got, want api.Errno) {
	t.Helper()
	if got != want {
		t.Errorf("%s: %d, want %d", name, got, want)
	}
}

func sameNumber(t *testing.T, name string, got int, e api.Errno, want int, wanted api.Errno) {
	t.Helper()
	if got != want || e != wanted {
		t.Errorf("%s: %d %d, want %d %d", name, got, e, want, wanted)
	}
}

func same(t *testing.T, name string, got []int, e api.Errno, want []int, wanted api.Errno) {
	t.Helper()
	if !slices.Equal(got, want) || e != wanted {
		t.Errorf("%s: %v %d, want %v %d", name, got, e, want, wanted)
	}
}

func samePlan(t *testing.T, name string, got hat.Plan, e api.Errno, want hat.Plan, wanted api.Errno) {
	t.Helper()
	if got.Helpers != want.Helpers || !slices.EqualFunc(got.Says, want.Says, slices.Equal[[]int]) || e != wanted {
		t.Errorf("%s: %v %d, want %v %d", name, got, e, want, wanted)
	}
}

func sameGuesses(t *testing.T, p hat.Plan, right, wrong int, wanted api.Errno) {
	t.Helper()
	r, w, e := hat.Guesses(p)
	if r != right || w != wrong || e != wanted {
		t.Errorf("Guesses of %v: %d %d %d, want %d %d %d", p, r, w, e, right, wrong, wanted)
	}
}

func TestExamplesOfPlans(t *testing.T) {
	for helper, want := range list(3, 2, 2) {
		n, e := hat.Seen(3, 6, helper)
		sameNumber(t, "Seen of 6", n, e, want, api.OK)
	}
	l, e := hat.Say(exampleP(), 2)
	same(t, "Say of P, 2", l, e, list(1, 2), api.OK)
	l, e = hat.Wins(exampleP())
	same(t, "Wins of P", l, e, list(1, 3), api.OK)
	sameGuesses(t, exampleP(), 2, 2, api.OK)
}

func TestExamplesOfCodes(t *testing.T) {
	l, e := hat.Times(2, list(0))
	same(t, "Times of 0", l, e, list(1, 1, 1, 0), api.OK)
	l, e = hat.Bare(2, list(0))
	same(t, "Bare of 0", l, e, list(3), api.OK)
	p, e := hat.From(3, list(0, 7))
	samePlan(t, "From of 0, 7", p, e, plan(3, list(1, 2, 2, 0), list(1, 2, 2, 0), list(1, 2, 2, 0)), api.OK)
	l, e = hat.Wins(p)
	same(t, "Wins of From of 0, 7", l, e, list(1, 2, 3, 4, 5, 6), api.OK)
	l, e = hat.Perfect(3)
	same(t, "Perfect of 3", l, e, list(0, 7), api.OK)
	l, e = hat.Perfect(4)
	same(t, "Perfect of 4", l, e, nil, api.ErrLost)
	n, e := hat.Nearest(3, 6)
	sameNumber(t, "Nearest of 3, 6", n, e, 7, api.OK)
	n, e = hat.Nearest(7, 127)
	sameNumber(t, "Nearest of 7, 127", n, e, 127, api.OK)
	for helpers, best := range [][]int{2: list(0, 1), 3: list(0, 7), 4: list(0, 1, 14, 15)} {
		if helpers >= 2 {
			l, e := hat.Best(helpers)
			same(t, "Best", l, e, best, api.OK)
		}
	}
	n, e = hat.Most(4)
	sameNumber(t, "Most of 4", n, e, 12, api.OK)
	l, e = hat.Best(5)
	same(t, "Best of 5", l, e, nil, api.ErrMany)
}

// The overview's example: three helpers who name a colour just where they see two equal hats.
func TestTwoEqualHats(t *testing.T) {
	p := plan(3, list(1, 2, 2, 0), list(1, 2, 2, 0), list(1, 2, 2, 0))
	l, e := hat.Wins(p)
	same(t, "Wins", l, e, list(1, 2, 3, 4, 5, 6), api.OK)
	sameGuesses(t, p, 6, 6, api.OK)
}

// wrongPlan is a plan with an error.
type wrongPlan struct {
	plan hat.Plan
	e    api.Errno
}

// wrong returns plans that are not right.
func wrong() []wrongPlan {
	eight := saying(8, 2)
	return []wrongPlan{
		{plan(0), api.ErrRange},
		{plan(0, nil), api.ErrRange},
		{plan(-1), api.ErrRange},
		{plan(-1, list(9)), api.ErrRange},
		{plan(math.MinInt), api.ErrRange},
		{plan(math.MaxInt), api.ErrRange},
		{plan(8), api.ErrRange},
		{eight, api.ErrRange},
		{plan(8, list(3)), api.ErrRange},
		{plan(64, list(0)), api.ErrRange},
		{plan(65, list(0)), api.ErrRange},
		{plan(1), api.ErrShape},
		{plan(7), api.ErrShape},
		{plan(1, list(0), list(0)), api.ErrShape},
		{plan(1, list(3), list(0)), api.ErrShape},
		{plan(2, list(0, 0)), api.ErrShape},
		{plan(2, list(3, 0)), api.ErrShape},
		{plan(2, list(0, 0), list(0, 0), list(0, 0)), api.ErrShape},
		{plan(7, eight.Says...), api.ErrShape},
		{plan(1, nil), api.ErrShape},
		{plan(1, list(0, 0)), api.ErrShape},
		{plan(1, list(3, 3)), api.ErrShape},
		{plan(2, list(0, 0), list(0)), api.ErrShape},
		{plan(2, list(0), list(0, 3)), api.ErrShape},
		{plan(2, list(0, 0, 0), list(0, 3)), api.ErrShape},
		{plan(2, list(3), list(0, 0)), api.ErrShape},
		{plan(2, nil, list(0, 3)), api.ErrShape},
		{plan(3, times(4, 0), times(4, 0), times(3, 3)), api.ErrShape},
		{plan(3, times(4, 0), times(8, 0), times(4, 3)), api.ErrShape},
		{plan(7, eight.Says[:7]...), api.ErrShape},
		{plan(1, list(3)), api.ErrRange},
		{plan(1, list(-1)), api.ErrRange},
		{plan(1, list(math.MinInt)), api.ErrRange},
		{plan(1, list(math.MaxInt)), api.ErrRange},
		{plan(2, list(0, 3), list(0, 0)), api.ErrRange},
		{plan(2, list(3, 0), list(0, 0)), api.ErrRange},
		{plan(2, list(2, 2), list(2, -1)), api.ErrRange},
		{plan(2, list(0, 3), list(0)), api.ErrRange},
		{plan(2, list(-1, 0), nil), api.ErrRange},
		{plan(3, times(4, 0), list(0, 1, 2, 3), times(5, 0)), api.ErrRange},
	}
}

// P10.1.
func TestCheck(t *testing.T) {
	for helpers := 1; helpers <= 7; helpers++ {
		for said := range 3 {
			sameError(t, "Check", hat.Check(saying(helpers, said)), api.OK)
		}
	}
	for _, p := range []hat.Plan{exampleP(), plan(1, list(2)), plan(2, list(0, 1), list(2, 0)), plan(3, list(0, 1, 2, 0), list(1, 1, 2, 2), times(4, 2))} {
		sameError(t, "Check", hat.Check(p), api.OK)
	}
	for i, x := range wrong() {
		if e := hat.Check(x.plan); e != x.e {
			t.Errorf("Check %d: %d, want %d", i, e, x.e)
		}
	}
}

// P10.1: all other functions of a plan return the error of Check at first.
func TestCheckAtFirst(t *testing.T) {
	for i, x := range wrong() {
		for _, colouring := range extreme() {
			for _, call := range callsOfPlan(x.plan, colouring) {
				results := call.results()
				if e := results[len(results)-1]; e != x.e {
					t.Errorf("%s %d: %v, want %d", call.name, i, results, x.e)
				}
			}
		}
	}
}

// P10.1: all functions of helpers return ErrRange at first, whatever the other arguments are.
func TestHelpersAtFirst(t *testing.T) {
	for _, helpers := range list(math.MinInt, -64, -1, 0, 8, 9, 63, 64, 65, 1<<32+3, math.MaxInt) {
		for _, number := range extreme() {
			for _, code := range lists(nil, list(0), list(number), list(1, 0), list(-1), list(number, number)) {
				for _, call := range slices.Concat(callsOfCode(helpers, code), callsOfNumbers(helpers, number, number), callsOfNumbers(helpers, 0, number)) {
					results := call.results()
					if e := results[len(results)-1]; e != api.ErrRange {
						t.Errorf("%s of %d helpers: %v", call.name, helpers, results)
					}
				}
			}
		}
	}
}

// P10.2.
func TestSeen(t *testing.T) {
	for _, x := range []struct {
		helpers, colouring, helper, seen int
		e                                api.Errno
	}{
		{1, 0, 0, 0, api.OK},
		{1, 1, 0, 0, api.OK},
		{2, 2, 0, 1, api.OK},
		{2, 2, 1, 0, api.OK},
		{2, 1, 0, 0, api.OK},
		{2, 1, 1, 1, api.OK},
		{4, 9, 0, 4, api.OK},
		{4, 9, 1, 5, api.OK},
		{4, 9, 2, 5, api.OK},
		{4, 9, 3, 1, api.OK},
		{7, 127, 0, 63, api.OK},
		{7, 127, 3, 63, api.OK},
		{7, 127, 6, 63, api.OK},
		{7, 64, 6, 0, api.OK},
		{7, 64, 5, 32, api.OK},
		{7, 64, 0, 32, api.OK},
		{7, 85, 2, 41, api.OK},
		{1, 2, 0, 0, api.ErrNone},
		{3, 8, 0, 0, api.ErrNone},
		{3, -1, 0, 0, api.ErrNone},
		{7, 128, 6, 0, api.ErrNone},
		{3, math.MinInt, 0, 0, api.ErrNone},
		{3, math.MaxInt, 0, 0, api.ErrNone},
		{3, 0, 3, 0, api.ErrNone},
		{3, 7, 3, 0, api.ErrNone},
		{3, 0, -1, 0, api.ErrNone},
		{3, 0, 64, 0, api.ErrNone},
		{3, 0, math.MinInt, 0, api.ErrNone},
		{3, 0, math.MaxInt, 0, api.ErrNone},
		{7, 0, 7, 0, api.ErrNone},
		{2, 4, 2, 0, api.ErrNone},
	} {
		n, e := hat.Seen(x.helpers, x.colouring, x.helper)
		sameNumber(t, "Seen", n, e, x.seen, x.e)
	}
}

// P10.2.
func TestSay(t *testing.T) {
	mixed := plan(3, list(0, 1, 2, 0), list(2, 1, 0, 1), list(1, 2, 2, 0))
	for _, x := range []struct {
		plan      hat.Plan
		colouring int
		says      []int
		e         api.Errno
	}{
		{plan(1, list(0)), 0, list(0), api.OK},
		{plan(1, list(0)), 1, list(0), api.OK},
		{plan(1, list(2)), 1, list(2), api.OK},
		{exampleP(), 0, list(1, 2), api.OK},
		{exampleP(), 3, list(1, 2), api.OK},
		{plan(2, list(0, 1), list(1, 2)), 0, list(0, 1), api.OK},
		{plan(2, list(0, 1), list(1, 2)), 1, list(0, 2), api.OK},
		{plan(2, list(0, 1), list(1, 2)), 2, list(1, 1), api.OK},
		{plan(2, list(0, 1), list(1, 2)), 3, list(1, 2), api.OK},
		{mixed, 0, list(0, 2, 1), api.OK},
		{mixed, 1, list(0, 1, 2), api.OK},
		{mixed, 2, list(1, 2, 2), api.OK},
		{mixed, 4, list(2, 0, 1), api.OK},
		{mixed, 6, list(0, 0, 2), api.OK},
		{mixed, 7, list(0, 1, 0), api.OK},
		{saying(7, 1), 127, times(7, 1), api.OK},
		{saying(7, 2), 64, times(7, 2), api.OK},
		{exampleP(), 4, nil, api.ErrNone},
		{exampleP(), -1, nil, api.ErrNone},
		{exampleP(), math.MinInt, nil, api.ErrNone},
		{exampleP(), math.MaxInt, nil, api.ErrNone},
		{saying(7, 1), 128, nil, api.ErrNone},
		{plan(1, list(0)), 2, nil, api.ErrNone},
	} {
		l, e := hat.Say(x.plan, x.colouring)
		same(t, "Say", l, e, x.says, x.e)
	}
}

// P10.3.
func TestWinsAndGuesses(t *testing.T) {
	for _, x := range []struct {
		plan         hat.Plan
		wins         []int
		right, wrong int
	}{
		{plan(1, list(0)), list(0), 1, 1},
		{plan(1, list(1)), list(1), 1, 1},
		{plan(1, list(2)), nil, 0, 0},
		{exampleP(), list(1, 3), 2, 2},
		{saying(3, hat.Pass), nil, 0, 0},
		{saying(7, hat.Pass), nil, 0, 0},
		{saying(2, hat.White), list(0), 4, 4},
		{saying(2, hat.Black), list(3), 4, 4},
		{saying(7, hat.White), list(0), 448, 448},
		{saying(7, hat.Black), list(127), 448, 448},
		// Each helper names what the other one wears, or does not wear.
		{plan(2, list(0, 1), list(0, 1)), list(0, 3), 4, 4},
		{plan(2, list(1, 0), list(1, 0)), list(1, 2), 4, 4},
		{plan(2, list(0, 1), list(1, 0)), nil, 4, 4},
		{plan(2, list(0, 2), list(0, 2)), list(0), 2, 2},
		{plan(2, list(1, 2), list(1, 2)), list(1, 2), 2, 2},
		{plan(2, list(1, 2), list(2, 2)), list(1), 1, 1},
	} {
		l, e := hat.Wins(x.plan)
		same(t, "Wins", l, e, x.wins, api.OK)
		sameGuesses(t, x.plan, x.right, x.wrong, api.OK)
	}
}

// wrongCode is a code with an error.
type wrongCode struct {
	helpers int
	code    []int
	e       api.Errno
}

// wrongCodes returns codes that are not right.
func wrongCodes() []wrongCode {
	return []wrongCode{
		{1, list(2), api.ErrNone},
		{2, list(4), api.ErrNone},
		{2, list(-1), api.ErrNone},
		{2, list(0, 4), api.ErrNone},
		{2, list(0, 1, 2, 3, 4), api.ErrNone},
		{2, list(math.MinInt), api.ErrNone},
		{2, list(math.MaxInt), api.ErrNone},
		{7, list(128), api.ErrNone},
		{7, append(ascending(128), 128), api.ErrNone},
		{7, list(1<<32 + 1), api.ErrNone},
		// An element that is neither a colouring nor greater than the one before.
		{2, list(1, -1), api.ErrNone},
		{2, list(3, math.MinInt), api.ErrNone},
		{2, list(5, 0), api.ErrNone},
		{2, list(9, 1, 0), api.ErrNone},
		{2, list(0, 0), api.ErrOrder},
		{2, list(1, 1), api.ErrOrder},
		{2, list(1, 0), api.ErrOrder},
		{2, list(0, 2, 1), api.ErrOrder},
		{2, list(0, 2, 2), api.ErrOrder},
		{2, list(1, 0, 9), api.ErrOrder},
		{2, list(0, 0, -1), api.ErrOrder},
		{7, append(ascending(128), 127), api.ErrOrder},
		{7, append(ascending(128), 0), api.ErrOrder},
		{7, times(100000, 5), api.ErrOrder},
	}
}

// P10.4, P10.5: the errors of codes.
func TestWrongCodes(t *testing.T) {
	for _, x := range wrongCodes() {
		l, e := hat.Times(x.helpers, x.code)
		same(t, "Times", l, e, nil, x.e)
		l, e = hat.Bare(x.helpers, x.code)
		same(t, "Bare", l, e, nil, x.e)
		p, e := hat.From(x.helpers, x.code)
		samePlan(t, "From", p, e, hat.Plan{}, x.e)
	}
}

// P10.4.
func TestTimesAndBare(t *testing.T) {
	for _, x := range []struct {
		helpers     int
		code        []int
		times, bare []int
	}{
		{1, nil, list(0, 0), list(0, 1)},
		{1, list(0), list(1, 1), nil},
		{1, list(1), list(1, 1), nil},
		{1, list(0, 1), list(2, 2), nil},
		{2, nil, times(4, 0), list(0, 1, 2, 3)},
		{2, list(3), list(0, 1, 1, 1), list(0)},
		{2, list(2), list(1, 0, 1, 1), list(1)},
		{2, list(0, 1), list(2, 2, 1, 1), nil},
		{2, list(0, 3), list(1, 2, 2, 1), nil},
		{2, ascending(4), times(4, 3), nil},
		{3, list(0, 7), times(8, 1), nil},
		{3, list(0, 1), list(2, 2, 1, 1, 1, 1, 0, 0), list(6, 7)},
		{3, list(5), list(0, 1, 0, 0, 1, 1, 0, 1), list(0, 2, 3, 6)},
		{7, ascending(128), times(128, 8), nil},
	} {
		l, e := hat.Times(x.helpers, x.code)
		same(t, "Times", l, e, x.times, api.OK)
		l, e = hat.Bare(x.helpers, x.code)
		same(t, "Bare", l, e, x.bare, api.OK)
	}
}

// P10.5.
func TestFrom(t *testing.T) {
	for _, x := range []struct {
		helpers int
		code    []int
		says    [][]int
	}{
		{1, nil, lists(list(2))},
		{1, list(0), lists(list(1))},
		{1, list(1), lists(list(0))},
		{1, list(0, 1), lists(list(2))},
		{2, list(0), lists(list(1, 2), list(1, 2))},
		{2, list(1), lists(list(0, 2), list(2, 1))},
		{2, list(2), lists(list(2, 1), list(0, 2))},
		{2, list(0, 1), lists(list(2, 2), list(1, 1))},
		{2, list(0, 3), lists(list(1, 0), list(1, 0))},
		{2, ascending(4), lists(list(2, 2), list(2, 2))},
		{3, nil, lists(times(4, 2), times(4, 2), times(4, 2))},
		{3, list(0, 1, 6), lists(list(2, 2, 2, 1), list(1, 1, 0, 2), list(1, 1, 0, 2))},
	} {
		p, e := hat.From(x.helpers, x.code)
		samePlan(t, "From", p, e, plan(x.helpers, x.says...), api.OK)
	}
	p, e := hat.From(7, ascending(128))
	samePlan(t, "From of all colourings", p, e, saying(7, hat.Pass), api.OK)
}

// P10.6.
func TestPerfectAndNearest(t *testing.T) {
	for helpers, code := range [][]int{1: list(0), 3: list(0, 7), 7: list(0, 7, 25, 30, 42, 45, 51, 52, 75, 76, 82, 85, 97, 102, 120, 127)} {
		if code != nil {
			l, e := hat.Perfect(helpers)
			same(t, "Perfect", l, e, code, api.OK)
		}
	}
	for _, helpers := range list(2, 4, 5, 6) {
		l, e := hat.Perfect(helpers)
		same(t, "Perfect", l, e, nil, api.ErrLost)
		for _, colouring := range extreme() {
			n, e := hat.Nearest(helpers, colouring)
			sameNumber(t, "Nearest", n, e, 0, api.ErrLost)
		}
	}
	for _, x := range []struct {
		helpers, colouring, element int
		e                           api.Errno
	}{
		{1, 0, 0, api.OK},
		{1, 1, 0, api.OK},
		{3, 0, 0, api.OK},
		{3, 1, 0, api.OK},
		{3, 2, 0, api.OK},
		{3, 4, 0, api.OK},
		{3, 3, 7, api.OK},
		{3, 5, 7, api.OK},
		{3, 7, 7, api.OK},
		{7, 0, 0, api.OK},
		{7, 1, 0, api.OK},
		{7, 64, 0, api.OK},
		{7, 24, 25, api.OK},
		{7, 31, 30, api.OK},
		{7, 63, 127, api.OK},
		{7, 126, 127, api.OK},
		{1, 2, 0, api.ErrNone},
		{1, -1, 0, api.ErrNone},
		{3, 8, 0, api.ErrNone},
		{3, -1, 0, api.ErrNone},
		{7, 128, 0, api.ErrNone},
		{7, math.MinInt, 0, api.ErrNone},
		{7, math.MaxInt, 0, api.ErrNone},
	} {
		n, e := hat.Nearest(x.helpers, x.colouring)
		sameNumber(t, "Nearest", n, e, x.element, x.e)
	}
}

// P10.7.
func TestBestAndMost(t *testing.T) {
	for i, x := range []struct {
		best []int
		most int
	}{{list(0), 1}, {list(0, 1), 2}, {list(0, 7), 6}, {list(0, 1, 14, 15), 12}} {
		l, e := hat.Best(i + 1)
		same(t, "Best", l, e, x.best, api.OK)
		n, e := hat.Most(i + 1)
		sameNumber(t, "Most", n, e, x.most, api.OK)
	}
	for _, helpers := range list(5, 6, 7) {
		l, e := hat.Best(helpers)
		same(t, "Best", l, e, nil, api.ErrMany)
		n, e := hat.Most(helpers)
		sameNumber(t, "Most", n, e, 0, api.ErrMany)
	}
}

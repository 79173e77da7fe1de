package hat_test

// P10.8 to P10.12, and with them F1 to F7 for this layer.

import (
	"slices"
	"testing"

	"aigrette/api"
	"aigrette/hat"
)

// checked returns what a call returns, which must not be an error.
func checked[T any](t *testing.T, name string) func(result T, e api.Errno) T {
	return func(result T, e api.Errno) T {
		t.Helper()
		if e != api.OK {
			t.Fatalf("%s: %d", name, e)
		}
		return result
	}
}

func winsOf(t *testing.T, p hat.Plan) []int {
	t.Helper()
	return checked[[]int](t, "Wins")(hat.Wins(p))
}

func bareOf(t *testing.T, helpers int, code []int) []int {
	t.Helper()
	return checked[[]int](t, "Bare")(hat.Bare(helpers, code))
}

func planOf(t *testing.T, helpers int, code []int) hat.Plan {
	t.Helper()
	return checked[hat.Plan](t, "From")(hat.From(helpers, code))
}

// merged returns the elements of both lists in ascending order.
func merged(one, other []int) []int {
	l := slices.Concat(one, other)
	slices.Sort(l)
	return slices.Compact(l)
}

// someCovers calls do with covering codes: those of some codes, and the other ones with what they do not cover.
func someCovers(t *testing.T, do func(helpers int, code []int)) {
	someCodes(func(helpers int, code []int) {
		do(helpers, merged(code, bareOf(t, helpers, code)))
	})
}

// P10.8, F4: what is lost is a cover.
func TestLostIsCovering(t *testing.T) {
	somePlans(func(p hat.Plan) {
		lost := without(p.Helpers, winsOf(t, p))
		same(t, "P10.8: Bare of what is lost", bareOf(t, p.Helpers, lost), api.OK, nil, api.OK)
	})
}

// P10.8: what is lost is a cover, of all plans of three helpers.
func TestLostOfThreeHelpers(t *testing.T) {
	allPlans(3, func(p hat.Plan) {
		lost := without(3, winsOf(t, p))
		if len(bareOf(t, 3, lost)) > 0 {
			t.Errorf("P10.8: %v loses only %v", p, lost)
		}
	})
}

// P10.8, F4, F6: a covering code makes a plan that loses it.
func TestCoveringIsLost(t *testing.T) {
	someCovers(t, func(helpers int, code []int) {
		same(t, "P10.8: Wins of From", winsOf(t, planOf(t, helpers, code)), api.OK, without(helpers, code), api.OK)
	})
}

// P10.8: of all covering codes of four helpers.
func TestCoveringOfFourHelpers(t *testing.T) {
	found := 0
	for _, code := range codesOf(4) {
		if len(bareOf(t, 4, code)) == 0 {
			found++
			same(t, "P10.8: Wins of From", winsOf(t, planOf(t, 4, code)), api.OK, without(4, code), api.OK)
		}
	}
	if found < 1000 {
		t.Errorf("P10.8: only %d covering codes", found)
	}
}

// P10.8, F3.
func TestMostAndBest(t *testing.T) {
	for helpers := 1; helpers <= 4; helpers++ {
		best := checked[[]int](t, "Best")(hat.Best(helpers))
		n, e := hat.Most(helpers)
		sameNumber(t, "P10.8: Most", n, e, 1<<helpers-len(best), api.OK)
		same(t, "P10.8: Bare of Best", bareOf(t, helpers, best), api.OK, nil, api.OK)
		if l := winsOf(t, planOf(t, helpers, best)); len(l) != n {
			t.Errorf("P10.8: Most of %d: %d, but %v", helpers, n, l)
		}
	}
}

// areNamed tells whether all helpers name a colour in each of these colourings.
func areNamed(t *testing.T, p hat.Plan, colourings []int) bool {
	t.Helper()
	return !slices.ContainsFunc(colourings, func(colouring int) bool {
		return slices.Contains(checked[[]int](t, "Say")(hat.Say(p, colouring)), hat.Pass)
	})
}

// P10.9, F2.
func TestRightAndWrong(t *testing.T) {
	all := 0
	somePlans(func(p hat.Plan) {
		right, wrong, e := hat.Guesses(p)
		if right != wrong || e != api.OK {
			t.Errorf("P10.9: Guesses of %v: %d %d %d", p, right, wrong, e)
		}
		won := winsOf(t, p)
		lost := without(p.Helpers, won)
		if areNamed(t, p, lost) {
			all++
			if len(won) > p.Helpers*len(lost) {
				t.Errorf("P10.9: %v wins %v", p, won)
			}
		}
	})
	if all < 20 {
		t.Errorf("P10.9: only %d plans in which all helpers name a colour where they lose", all)
	}
}

// P10.9: the plans of perfect codes win as many times as many colourings as they lose as there are helpers,
// since where they lose all helpers name a colour.
func TestPlansOfPerfectCodes(t *testing.T) {
	for _, helpers := range list(1, 3, 7) {
		code := checked[[]int](t, "Perfect")(hat.Perfect(helpers))
		p := planOf(t, helpers, code)
		if l := winsOf(t, p); len(l) != helpers*len(code) || !areNamed(t, p, code) {
			t.Errorf("P10.9: %v wins %v", p, l)
		}
		sameGuesses(t, p, helpers*len(code), helpers*len(code), api.OK)
	}
}

// P10.10.
func TestHamming(t *testing.T) {
	for _, helpers := range list(1, 3, 7) {
		code := checked[[]int](t, "Perfect")(hat.Perfect(helpers))
		l, e := hat.Times(helpers, code)
		same(t, "P10.10: Times of Perfect", l, e, times(1<<helpers, 1), api.OK)
		if len(code)*(helpers+1) != 1<<helpers {
			t.Errorf("P10.10: %d elements of %d helpers", len(code), helpers)
		}
		for colouring := range 1 << helpers {
			n, e := hat.Nearest(helpers, colouring)
			if sum := sumOf(helpers, colouring); sum == 0 {
				sameNumber(t, "P10.10: Nearest of an element", n, e, colouring, api.OK)
			} else {
				sameNumber(t, "P10.10: Nearest", n, e, colouring^1<<(sum-1), api.OK)
			}
			if !slices.Contains(code, n) {
				t.Errorf("P10.10: Nearest of %d: %d", colouring, n)
			}
		}
		for _, one := range code {
			for _, other := range code {
				if !slices.Contains(code, one^other) {
					t.Errorf("P10.10: %d and %d", one, other)
				}
			}
		}
	}
}

// naming returns an order of the helpers that looks as if it was drawn: the new name of each.
func naming(helpers, seed int) []int {
	draw, names := seeds(seed), ascending(helpers)
	for i := helpers - 1; i > 0; i-- {
		j := draw(i + 1)
		names[i], names[j] = names[j], names[i]
	}
	return names
}

// named returns the colouring after the helpers have changed their names.
func named(names []int, colouring int) int {
	other := make([]int, len(names))
	for helper, worn := range hatsOf(len(names), colouring) {
		other[names[helper]] = worn
	}
	return numberOf(other)
}

// turnedHats returns the colouring after all hats have changed their colours.
func turnedHats(helpers, colouring int) int {
	return 1<<helpers - 1 - colouring
}

// every returns a code with each element changed.
func every(code []int, change func(colouring int) int) []int {
	var other []int
	for _, element := range code {
		other = append(other, change(element))
	}
	slices.Sort(other)
	return other
}

// P10.11, F5: codes.
func TestOtherNamesOfCodes(t *testing.T) {
	i := 0
	someCodes(func(helpers int, code []int) {
		i++
		names := naming(helpers, i)
		for _, change := range []func(int) int{
			func(colouring int) int { return named(names, colouring) },
			func(colouring int) int { return turnedHats(helpers, colouring) },
		} {
			other, bare := every(code, change), bareOf(t, helpers, code)
			same(t, "P10.11: Bare", bareOf(t, helpers, other), api.OK, every(bare, change), api.OK)
			often, changed := checked[[]int](t, "Times")(hat.Times(helpers, code)), checked[[]int](t, "Times")(hat.Times(helpers, other))
			for colouring := range often {
				if often[colouring] != changed[change(colouring)] {
					t.Errorf("P10.11: Times of %v: %v, of %v: %v", code, often, other, changed)
				}
			}
		}
	})
}

// namedPlan returns the plan after the helpers have changed their names.
func namedPlan(p hat.Plan, names []int) hat.Plan {
	other := saying(p.Helpers, hat.Pass)
	for helper, says := range p.Says {
		for colouring := range 1 << p.Helpers {
			view := seenOf(p.Helpers, named(names, colouring), names[helper])
			other.Says[names[helper]][view] = says[seenOf(p.Helpers, colouring, helper)]
		}
	}
	return other
}

// turnedPlan returns the plan after all hats have changed their colours.
func turnedPlan(p hat.Plan) hat.Plan {
	other := saying(p.Helpers, hat.Pass)
	for helper, says := range p.Says {
		for view, said := range says {
			if said != hat.Pass {
				said = 1 - said
			}
			other.Says[helper][turnedHats(p.Helpers-1, view)] = said
		}
	}
	return other
}

// P10.11, F5: plans.
func TestOtherNamesOfPlans(t *testing.T) {
	i := 0
	somePlans(func(p hat.Plan) {
		i++
		won, names := winsOf(t, p), naming(p.Helpers, i)
		want := every(won, func(colouring int) int { return named(names, colouring) })
		same(t, "P10.11: Wins, other names", winsOf(t, namedPlan(p, names)), api.OK, want, api.OK)
		want = every(won, func(colouring int) int { return turnedHats(p.Helpers, colouring) })
		same(t, "P10.11: Wins, other colours", winsOf(t, turnedPlan(p)), api.OK, want, api.OK)
	})
}

// P10.12, F7: one element more.
func TestMoreElements(t *testing.T) {
	i := 0
	someCodes(func(helpers int, code []int) {
		i++
		others := without(helpers, code)
		if len(others) == 0 {
			return
		}
		more := merged(code, list(others[i%len(others)]))
		before, after := checked[[]int](t, "Times")(hat.Times(helpers, code)), checked[[]int](t, "Times")(hat.Times(helpers, more))
		for colouring := range before {
			if after[colouring] < before[colouring] {
				t.Errorf("P10.12: Times of %v: %v, of %v: %v", code, before, more, after)
			}
		}
		bare := bareOf(t, helpers, code)
		if slices.ContainsFunc(bareOf(t, helpers, more), func(colouring int) bool { return !slices.Contains(bare, colouring) }) {
			t.Errorf("P10.12: Bare of %v, and of %v", code, more)
		}
	})
}

// withSilent returns the plan with one helper more, at this place, who always passes and whose hat the others
// do not heed.
func withSilent(p hat.Plan, place int) hat.Plan {
	other := saying(p.Helpers+1, hat.Pass)
	for helper, says := range p.Says {
		name := helper
		if helper >= place {
			name++
		}
		for colouring := range 2 << p.Helpers {
			view := seenOf(p.Helpers+1, colouring, name)
			before := seenOf(p.Helpers+1, colouring, place)
			other.Says[name][view] = says[seenOf(p.Helpers, before, helper)]
		}
	}
	return other
}

// P10.12, F7: one helper more.
func TestMoreHelpers(t *testing.T) {
	i := 0
	somePlans(func(p hat.Plan) {
		i++
		if p.Helpers == 7 {
			return
		}
		place := i % (p.Helpers + 1)
		won, more := winsOf(t, p), winsOf(t, withSilent(p, place))
		if len(more) != 2*len(won) {
			t.Errorf("P10.12: %v wins %v, with one more helper %v", p, won, more)
		}
		for _, colouring := range more {
			if !slices.Contains(won, seenOf(p.Helpers+1, colouring, place)) {
				t.Errorf("P10.12: %v does not win as with one more helper: %d", p, colouring)
			}
		}
	})
}

// F7: with one more helper at least as large a part of all colourings can be won.
func TestMostOfMoreHelpers(t *testing.T) {
	for helpers := 1; helpers < 4; helpers++ {
		fewer, more := checked[int](t, "Most")(hat.Most(helpers)), checked[int](t, "Most")(hat.Most(helpers+1))
		if more < 2*fewer {
			t.Errorf("F7: Most of %d: %d, of one more: %d", helpers, fewer, more)
		}
	}
}

// F1, F2: Wins, and what it does not return, are all colourings; the guesses are those of Say.
func TestAllColourings(t *testing.T) {
	somePlans(func(p hat.Plan) {
		won := winsOf(t, p)
		right, wrong := 0, 0
		for colouring := range 1 << p.Helpers {
			hats, r, w := hatsOf(p.Helpers, colouring), 0, 0
			for helper, said := range checked[[]int](t, "Say")(hat.Say(p, colouring)) {
				switch {
				case said == hats[helper]:
					r++
				case said != hat.Pass:
					w++
				}
			}
			if slices.Contains(won, colouring) != (r > 0 && w == 0) {
				t.Errorf("F1: Wins of %v: %v, and %d", p, won, colouring)
			}
			right += r
			wrong += w
		}
		sameGuesses(t, p, right, wrong, api.OK)
	})
}

// F2: each element covers itself and one colouring for each helper.
func TestTimesAltogether(t *testing.T) {
	someCodes(func(helpers int, code []int) {
		sum := 0
		for _, often := range checked[[]int](t, "Times")(hat.Times(helpers, code)) {
			sum += often
		}
		if sum != len(code)*(helpers+1) {
			t.Errorf("F2: Times of %v: %d", code, sum)
		}
	})
}

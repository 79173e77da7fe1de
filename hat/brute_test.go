package hat_test

// All results compared with what the chapter's definitions alone say. Here a colouring is a list of hats, that
// of the helper 0 first.

import (
	"slices"
	"testing"

	"aigrette/api"
	"aigrette/hat"
)

// hatsOf returns the hats of a colouring.
func hatsOf(helpers, colouring int) []int {
	var hats []int
	for range helpers {
		hats = append(hats, colouring%2)
		colouring /= 2
	}
	return hats
}

// numberOf returns the number whose binary digits these hats are.
func numberOf(hats []int) int {
	number := 0
	for i := len(hats) - 1; i >= 0; i-- {
		number = 2*number + hats[i]
	}
	return number
}

// seenOf returns what a helper sees.
func seenOf(helpers, colouring, helper int) int {
	return numberOf(slices.Delete(hatsOf(helpers, colouring), helper, helper+1))
}

// P10.2: by the digits, and by the remainder and the quotient.
func TestSeenOfAllColourings(t *testing.T) {
	for helpers := 1; helpers <= 7; helpers++ {
		for colouring := -3; colouring <= 1<<helpers+3; colouring++ {
			for helper := -3; helper <= helpers+3; helper++ {
				n, e := hat.Seen(helpers, colouring, helper)
				if colouring < 0 || colouring >= 1<<helpers || helper < 0 || helper >= helpers {
					sameNumber(t, "Seen", n, e, 0, api.ErrNone)
					continue
				}
				power := 1 << helper
				sameNumber(t, "Seen", n, e, seenOf(helpers, colouring, helper), api.OK)
				sameNumber(t, "Seen", n, e, colouring%power+colouring/(2*power)*power, api.OK)
			}
		}
	}
}

// allLists returns all lists of so many of the numbers 0, 1 and 2.
func allLists(length int) [][]int {
	all := lists(nil)
	for range length {
		var longer [][]int
		for _, l := range all {
			for number := range 3 {
				longer = append(longer, append(slices.Clone(l), number))
			}
		}
		all = longer
	}
	return all
}

// allPlans calls do with each plan of so many helpers.
func allPlans(helpers int, do func(p hat.Plan)) {
	rows := allLists(1 << (helpers - 1))
	var add func(p hat.Plan)
	add = func(p hat.Plan) {
		if len(p.Says) == helpers {
			do(p)
			return
		}
		for _, row := range rows {
			add(plan(helpers, append(slices.Clone(p.Says), row)...))
		}
	}
	add(plan(helpers))
}

// seeds returns numbers that look as if they were drawn.
func seeds(seed int) func(bound int) int {
	state := uint32(seed*7919 + 17)
	return func(bound int) int {
		state = state*1664525 + 1013904223
		return int(state>>16) % bound
	}
}

// drawnPlan returns a plan that looks as if it was drawn, in which the helpers pass more often or less.
func drawnPlan(helpers, seed int) hat.Plan {
	draw := seeds(seed)
	p := plan(helpers)
	for range helpers {
		says := times(1<<(helpers-1), hat.Pass)
		for i := range says {
			if draw(4) >= seed%4 {
				says[i] = draw(3)
			}
		}
		p.Says = append(p.Says, says)
	}
	return p
}

// drawnCode returns a code that looks as if it was drawn, with more or less elements.
func drawnCode(helpers, seed int) []int {
	draw := seeds(seed)
	var code []int
	for colouring := range 1 << helpers {
		if draw(9) <= seed%9 {
			code = append(code, colouring)
		}
	}
	return code
}

// somePlans calls do with all plans of one or two helpers, and drawn ones of more.
func somePlans(do func(p hat.Plan)) {
	allPlans(1, do)
	allPlans(2, do)
	for helpers := 3; helpers <= 7; helpers++ {
		for said := range 3 {
			do(saying(helpers, said))
		}
		for seed := range 200 {
			do(drawnPlan(helpers, seed))
		}
	}
}

// codesOf returns all codes of so many helpers.
func codesOf(helpers int) [][]int {
	all := lists(nil)
	for colouring := range 1 << helpers {
		for _, code := range slices.Clone(all) {
			all = append(all, append(slices.Clone(code), colouring))
		}
	}
	return all
}

// someCodes calls do with all codes of up to three helpers, and drawn ones of more.
func someCodes(do func(helpers int, code []int)) {
	for helpers := 1; helpers <= 3; helpers++ {
		for _, code := range codesOf(helpers) {
			do(helpers, code)
		}
	}
	for helpers := 4; helpers <= 7; helpers++ {
		do(helpers, nil)
		do(helpers, ascending(1<<helpers))
		for colouring := range 1 << helpers {
			do(helpers, list(colouring))
		}
		for seed := range 300 {
			do(helpers, drawnCode(helpers, seed))
		}
	}
}

// sayOf returns what each helper says.
func sayOf(p hat.Plan, colouring int) []int {
	var said []int
	for helper := range p.Helpers {
		said = append(said, p.Says[helper][seenOf(p.Helpers, colouring, helper)])
	}
	return said
}

// playOf returns the colourings that are won, and how often colours are named right and wrong.
func playOf(p hat.Plan) (won []int, right, wrong int) {
	for colouring := range 1 << p.Helpers {
		hats, r, w := hatsOf(p.Helpers, colouring), 0, 0
		for helper, said := range sayOf(p, colouring) {
			if said == hat.Pass {
				continue
			}
			if said == hats[helper] {
				r++
			} else {
				w++
			}
		}
		if r > 0 && w == 0 {
			won = append(won, colouring)
		}
		right += r
		wrong += w
	}
	return won, right, wrong
}

// P10.1 to P10.3.
func TestPlayOfSomePlans(t *testing.T) {
	somePlans(func(p hat.Plan) {
		sameError(t, "Check", hat.Check(p), api.OK)
		for colouring := range 1 << p.Helpers {
			l, e := hat.Say(p, colouring)
			same(t, "Say", l, e, sayOf(p, colouring), api.OK)
		}
		won, right, wrong := playOf(p)
		l, e := hat.Wins(p)
		same(t, "Wins", l, e, won, api.OK)
		sameGuesses(t, p, right, wrong, api.OK)
	})
}

// errorOf returns the error of a plan.
func errorOf(p hat.Plan) api.Errno {
	if p.Helpers < 1 || p.Helpers > 7 {
		return api.ErrRange
	}
	if len(p.Says) != p.Helpers {
		return api.ErrShape
	}
	for _, says := range p.Says {
		if len(says)*2 != 1<<p.Helpers {
			return api.ErrShape
		}
		if slices.Min(says) < 0 || slices.Max(says) > 2 {
			return api.ErrRange
		}
	}
	return api.OK
}

// rowsOf returns lists of so many elements, some of which nobody can say.
func rowsOf(length int) [][]int {
	rows := lists(times(length, 0), times(length, 3), times(length, -1))
	if length > 0 {
		rows = append(rows, append(times(length-1, 2), 3), append(list(-1), times(length-1, 1)...))
	}
	return rows
}

// P10.1: the lists of a plan have all lengths near the right ones.
func TestCheckOfManyPlans(t *testing.T) {
	for helpers := -1; helpers <= 8; helpers++ {
		half := max(helpers, 1) - 1
		right := times(1<<half, 1)
		for count := range 10 {
			sameError(t, "Check of right lists", hat.Check(plan(helpers, slices.Repeat(lists(right), count)...)), errorOf(plan(helpers, slices.Repeat(lists(right), count)...)))
			for place := range count {
				for _, length := range list(0, 1, 1<<half-1, 1<<half, 1<<half+1, 2<<half) {
					for _, row := range rowsOf(length) {
						p := plan(helpers, slices.Repeat(lists(right), count)...)
						p.Says[place] = row
						sameError(t, "Check", hat.Check(p), errorOf(p))
						p.Says[(place+1)%count] = times(length, place%4)
						sameError(t, "Check", hat.Check(p), errorOf(p))
					}
				}
			}
		}
	}
}

// differ returns the number of helpers whose hats differ.
func differ(helpers, one, other int) int {
	hats, often := hatsOf(helpers, other), 0
	for helper, worn := range hatsOf(helpers, one) {
		if worn != hats[helper] {
			often++
		}
	}
	return often
}

// timesOf returns how many elements of a code cover each colouring.
func timesOf(helpers int, code []int) []int {
	often := make([]int, 1<<helpers)
	for colouring := range often {
		for _, element := range code {
			if differ(helpers, colouring, element) <= 1 {
				often[colouring]++
			}
		}
	}
	return often
}

// isCovering tells whether each colouring is covered.
func isCovering(helpers int, code []int) bool {
	return !slices.Contains(timesOf(helpers, code), 0)
}

// without returns the colourings that are not in a list.
func without(helpers int, l []int) []int {
	return slices.DeleteFunc(ascending(1<<helpers), func(colouring int) bool { return slices.Contains(l, colouring) })
}

// P10.4.
func TestTimesOfSomeCodes(t *testing.T) {
	someCodes(func(helpers int, code []int) {
		want := timesOf(helpers, code)
		l, e := hat.Times(helpers, code)
		same(t, "Times", l, e, want, api.OK)
		var bare []int
		for colouring, often := range want {
			if often == 0 {
				bare = append(bare, colouring)
			}
		}
		l, e = hat.Bare(helpers, code)
		same(t, "Bare", l, e, bare, api.OK)
	})
}

// fromOf returns the plan of a code: each helper looks for the colourings in which this is seen.
func fromOf(helpers int, code []int) hat.Plan {
	p := saying(helpers, hat.Pass)
	for helper, says := range p.Says {
		for view := range says {
			var outside []int
			for colouring := range 1 << helpers {
				if seenOf(helpers, colouring, helper) == view && !slices.Contains(code, colouring) {
					outside = append(outside, colouring)
				}
			}
			if len(outside) == 1 {
				says[view] = hatsOf(helpers, outside[0])[helper]
			}
		}
	}
	return p
}

// P10.5.
func TestFromOfSomeCodes(t *testing.T) {
	i := 0
	someCodes(func(helpers int, code []int) {
		i++
		if helpers < 5 || i%10 == 0 {
			p, e := hat.From(helpers, code)
			samePlan(t, "From", p, e, fromOf(helpers, code), api.OK)
		}
	})
}

// errorOfCode returns the error of a code.
func errorOfCode(helpers int, code []int) api.Errno {
	for i, element := range code {
		switch {
		case element < 0 || element >= 1<<helpers:
			return api.ErrNone
		case i > 0 && slices.Max(code[:i]) >= element:
			return api.ErrOrder
		}
	}
	return api.OK
}

// P10.4, P10.5: lists of numbers that are colourings, or nearly so, in any order.
func TestErrorsOfManyCodes(t *testing.T) {
	for helpers := 1; helpers <= 7; helpers++ {
		numbers := list(-1, 0, 1, 1<<helpers-1, 1<<helpers, 1<<helpers+1)
		codes := lists(nil)
		for i := 0; i < len(codes); i++ {
			for _, number := range numbers {
				if len(codes[i]) < 4 {
					codes = append(codes, append(slices.Clone(codes[i]), number))
				}
			}
		}
		for _, code := range codes {
			_, times := hat.Times(helpers, code)
			_, bare := hat.Bare(helpers, code)
			_, from := hat.From(helpers, code)
			if wanted := errorOfCode(helpers, code); times != wanted || bare != wanted || from != wanted {
				t.Errorf("%d helpers, %v: %d %d %d, want %d", helpers, code, times, bare, from, wanted)
			}
		}
	}
}

// sumOf returns the sum of a colouring, digit by digit.
func sumOf(helpers, colouring int) int {
	var odd [3]int
	for helper, worn := range hatsOf(helpers, colouring) {
		for i, digit := range hatsOf(3, helper+1) {
			odd[i] = (odd[i] + worn*digit) % 2
		}
	}
	return numberOf(odd[:])
}

// P10.6.
func TestPerfectOfAllHelpers(t *testing.T) {
	for helpers := 1; helpers <= 7; helpers++ {
		var code []int
		for colouring := range 1 << helpers {
			if sumOf(helpers, colouring) == 0 {
				code = append(code, colouring)
			}
		}
		l, e := hat.Perfect(helpers)
		if helpers != 1 && helpers != 3 && helpers != 7 {
			same(t, "Perfect", l, e, nil, api.ErrLost)
			continue
		}
		same(t, "Perfect", l, e, code, api.OK)
		for colouring := range 1 << helpers {
			covers := func(element int) bool { return differ(helpers, element, colouring) <= 1 }
			n, e := hat.Nearest(helpers, colouring)
			sameNumber(t, "Nearest", n, e, code[slices.IndexFunc(code, covers)], api.OK)
		}
	}
}

// isBetter tells whether a code has fewer elements, or as many and is smaller.
func isBetter(one, other []int) bool {
	return len(one) < len(other) || len(one) == len(other) && slices.Compare(one, other) < 0
}

// P10.7, F3: of all codes.
func TestBestOfAllCodes(t *testing.T) {
	for helpers := 1; helpers <= 4; helpers++ {
		best := ascending(1 << helpers)
		for _, code := range codesOf(helpers) {
			if isBetter(code, best) && isCovering(helpers, code) {
				best = code
			}
		}
		l, e := hat.Best(helpers)
		same(t, "Best", l, e, best, api.OK)
	}
}

// P10.7, F3: of all plans of up to three helpers.
func TestMostOfAllPlans(t *testing.T) {
	for helpers := 1; helpers <= 3; helpers++ {
		most := 0
		allPlans(helpers, func(p hat.Plan) {
			l, e := hat.Wins(p)
			if e != api.OK {
				t.Fatalf("Wins of %v: %d", p, e)
			}
			most = max(most, len(l))
		})
		n, e := hat.Most(helpers)
		sameNumber(t, "Most", n, e, most, api.OK)
	}
}

// P10.7, F3: of four helpers. For each colouring that is won somebody names the own hat's colour, and so loses
// the colouring that looks the same; all the others may then pass.
func TestMostOfFourHelpers(t *testing.T) {
	most := 0
	for _, won := range codesOf(4) {
		if len(won) > most && !slices.ContainsFunc(won, func(colouring int) bool { return !hasOther(won, colouring) }) {
			most = len(won)
		}
	}
	n, e := hat.Most(4)
	sameNumber(t, "Most", n, e, most, api.OK)
}

// hasOther tells whether one of four helpers sees the same in a colouring that is not in a list.
func hasOther(l []int, colouring int) bool {
	return slices.ContainsFunc(without(4, l), func(other int) bool { return differ(4, colouring, other) == 1 })
}

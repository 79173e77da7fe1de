package branch_test

// P11.9 to P11.14, and with them F1, F2, F3, F5 and F6 for this layer, which proves nothing (F4) and has no
// promise about more of something (F7).

import (
	"slices"
	"testing"

	"aigrette/api"
	"aigrette/branch"
)

// checked returns what a call returns, which must not be an error.
func checked[T any](t *testing.T, name string) func(result T, e api.Errno) T {
	return func(result T, e api.Errno) T {
		t.Helper()
		if e != api.OK {
			t.Fatalf("%s: %d", name, e)
		}
		return result
	}
}

func tidyOf(t *testing.T, x branch.Tree) branch.Tree {
	t.Helper()
	return checked[branch.Tree](t, "Tidy")(branch.Tidy(x))
}

func middleOf(t *testing.T, x branch.Tree) []int {
	t.Helper()
	return checked[[]int](t, "Middle")(branch.Middle(x))
}

// P11.9, F6: what was written is read.
func TestWrittenIsRead(t *testing.T) {
	someTrees(func(x branch.Tree) {
		l := checked[[]int](t, "Write")(branch.Write(x))
		read, e := branch.Read(x.Knots, l)
		sameTree(t, "P11.9: Read of Write", read, e, tidyOf(t, x), api.OK)
	})
}

// drawnList returns a list that looks as if it was drawn.
func drawnList(knots, seed int) []int {
	draw := seeds(seed)
	var l []int
	for range knots - 2 {
		l = append(l, draw(knots))
	}
	return l
}

// someOfLists calls do with all lists of up to six knots, and drawn ones of up to nine.
func someOfLists(do func(knots int, l []int)) {
	for knots := 1; knots <= 6; knots++ {
		for _, l := range listsOf(max(knots-2, 0), numbersFrom(0, knots-1)...) {
			do(knots, l)
		}
	}
	for knots := 3; knots <= 9; knots++ {
		for seed := range 1000 {
			do(knots, drawnList(knots, seed))
		}
	}
}

// P11.9, F6: what was read is written, and is tidy.
func TestReadIsWritten(t *testing.T) {
	someOfLists(func(knots int, l []int) {
		x := checked[branch.Tree](t, "Read")(branch.Read(knots, l))
		again, e := branch.Write(x)
		same(t, "P11.9: Write of Read", again, e, l, api.OK)
		sameTree(t, "P11.2: tidy", x, errorOf(x), tidyOf(t, x), api.OK)
	})
}

// P11.9, F1, F2: all numbers have trees, no two the same one.
func TestCountIsPower(t *testing.T) {
	for knots := 2; knots <= 7; knots++ {
		power := 1
		for range knots - 2 {
			power *= knots
		}
		n, e := branch.Count(knots)
		sameNumber(t, "P11.9: Count", n, e, power, api.OK)
		seen := map[[6][2]int]bool{}
		for number := range n {
			x := checked[branch.Tree](t, "Nth")(branch.Nth(knots, number))
			var ties [6][2]int
			copy(ties[:], x.Ties)
			seen[ties] = true
		}
		if len(seen) != n {
			t.Errorf("P11.9: %d trees of %d knots, Count %d", len(seen), knots, n)
		}
	}
}

// P11.10, F2: a knot is in the list as often as its degree says.
func TestDegreesAndLists(t *testing.T) {
	someTrees(func(x branch.Tree) {
		if x.Knots < 2 {
			return
		}
		degrees := times(x.Knots, 1)
		for _, knot := range checked[[]int](t, "Write")(branch.Write(x)) {
			degrees[knot]++
		}
		l, e := branch.Degrees(x)
		same(t, "P11.10: Degrees", l, e, degrees, api.OK)
	})
}

// P11.10: With is the number of lists in which each knot occurs as often.
func TestWithIsNumberOfLists(t *testing.T) {
	for knots := 2; knots <= 7; knots++ {
		count := map[[7]int]int{}
		for _, l := range listsOf(knots-2, numbersFrom(0, knots-1)...) {
			degrees := [7]int{}
			for knot := range knots {
				degrees[knot] = 1
			}
			for _, knot := range l {
				degrees[knot]++
			}
			count[degrees]++
		}
		for degrees, want := range count {
			n, e := branch.With(degrees[:knots])
			sameNumber(t, "P11.10: With", n, e, want, api.OK)
		}
	}
}

// product returns the product of all numbers from 1 to a number.
func product(number int) int {
	result := 1
	for factor := range number {
		result *= factor + 1
	}
	return result
}

// P11.10: With is the quotient of products, for all degrees of drawn trees.
func TestWithIsQuotient(t *testing.T) {
	someTrees(func(x branch.Tree) {
		if x.Knots < 2 {
			return
		}
		degrees := checked[[]int](t, "Degrees")(branch.Degrees(x))
		quotient := product(x.Knots - 2)
		for _, degree := range degrees {
			quotient /= product(degree - 1)
		}
		n, e := branch.With(degrees)
		sameNumber(t, "P11.10: With", n, e, quotient, api.OK)
	})
}

// P11.10: with a degree 0 there are no trees of at least two knots, and one of one knot.
func TestWithoutTies(t *testing.T) {
	n, e := branch.With(list(0))
	sameNumber(t, "P11.10: With of one knot", n, e, 1, api.OK)
	for knots := 3; knots <= 9; knots++ {
		for zero := range knots {
			degrees := times(knots, 1)
			degrees[zero] = 0
			degrees[(zero+1)%knots] += knots - 2
			degrees[(zero+2)%knots]++
			n, e := branch.With(degrees)
			sameNumber(t, "P11.10: With of a degree 0", n, e, 0, errorOfDegrees(degrees))
		}
	}
}

// P11.10, F2: all degrees of some knots have all trees.
func TestWithOfAllIsCount(t *testing.T) {
	for knots := 2; knots <= 9; knots++ {
		sum := 0
		var add func(degrees []int, left int)
		add = func(degrees []int, left int) {
			if len(degrees) == knots {
				if left == 0 {
					sum += checked[int](t, "With")(branch.With(degrees))
				}
				return
			}
			for more := range left + 1 {
				add(append(slices.Clone(degrees), 1+more), left-more)
			}
		}
		add(nil, knots-2)
		n, e := branch.Count(knots)
		sameNumber(t, "P11.10: Count", n, e, sum, api.OK)
	}
}

// P11.11: the middle has one knot, or two that are tied, and is the last round.
func TestMiddleIsLastRound(t *testing.T) {
	count := map[int]int{}
	someTrees(func(x branch.Tree) {
		middle := middleOf(t, x)
		count[len(middle)]++
		if len(middle) != 1 && (len(middle) != 2 || !isTied(x, middle[0], middle[1])) {
			t.Errorf("P11.11: Middle of %v: %v", x, middle)
		}
		rounds := checked[[][]int](t, "Rounds")(branch.Rounds(x))
		same(t, "P11.11: the last round", rounds[len(rounds)-1], api.OK, middle, api.OK)
	})
	if len(count) != 2 {
		t.Errorf("P11.11: %v", count)
	}
}

// F2: each knot is in just one round.
func TestRoundsHaveAllKnots(t *testing.T) {
	someTrees(func(x branch.Tree) {
		knots := slices.Concat(checked[[][]int](t, "Rounds")(branch.Rounds(x))...)
		slices.Sort(knots)
		same(t, "F2: Rounds", knots, api.OK, numbersFrom(0, x.Knots-1), api.OK)
	})
}

// waysOf returns the ways between all knots of a tree.
func waysOf(t *testing.T, x branch.Tree) [][]int {
	t.Helper()
	var ways [][]int
	for a := range x.Knots {
		for b := range x.Knots {
			ways = append(ways, checked[[]int](t, "Way")(branch.Way(x, a, b)))
		}
	}
	return ways
}

// P11.11, F3: each way with the most ties goes through the whole middle, and the reach is that of the longest
// way.
func TestLongestWays(t *testing.T) {
	someTrees(func(x branch.Tree) {
		middle, ways := middleOf(t, x), waysOf(t, x)
		longest := len(slices.MaxFunc(ways, func(one, other []int) int { return len(one) - len(other) }))
		for _, way := range ways {
			for _, knot := range middle {
				if len(way) == longest && !slices.Contains(way, knot) {
					t.Errorf("P11.11: %v: the way %v without %d", x, way, knot)
				}
			}
		}
		reaches := checked[[]int](t, "Reach")(branch.Reach(x))
		sameNumber(t, "F3: the greatest reach", slices.Max(reaches), api.OK, longest-1, api.OK)
		for knot, reach := range reaches {
			if (reach == slices.Min(reaches)) != slices.Contains(middle, knot) {
				t.Errorf("F3: Reach of %v: %v, Middle %v", x, reaches, middle)
			}
		}
	})
}

// F6: a way back has the same knots.
func TestWayBack(t *testing.T) {
	someTrees(func(x branch.Tree) {
		for _, way := range waysOf(t, x) {
			back := slices.Clone(way)
			slices.Reverse(back)
			l, e := branch.Way(x, back[0], way[0])
			same(t, "F6: Way", l, e, back, api.OK)
		}
	})
}

// hasTie tells whether a way goes over a tie.
func hasTie(way []int, tie [2]int) bool {
	for i := 1; i < len(way); i++ {
		if step := [2]int{way[i-1], way[i]}; step == tie || step == [2]int{tie[1], tie[0]} {
			return true
		}
	}
	return false
}

// P11.12: Swap returns a tree just if the way has the tie, and it can be swapped back.
func TestSwapOverWays(t *testing.T) {
	for knots := 2; knots <= 9; knots++ {
		for seed := range 40 {
			x := drawnTree(knots, seed)
			for i, tie := range x.Ties {
				for _, way := range waysOf(t, x) {
					if with := [2]int{way[0], way[len(way)-1]}; len(way) > 1 {
						checkSwapOver(t, x, i, with, hasTie(way, tie))
					}
				}
			}
		}
	}
}

func checkSwapOver(t *testing.T, x branch.Tree, i int, with [2]int, wanted bool) {
	t.Helper()
	swapped, e := branch.Swap(x, i, with)
	if wanted != (e == api.OK) || !wanted && e != api.ErrLost {
		t.Errorf("P11.12: Swap of %v, %d, %v: %d", x, i, with, e)
	}
	if e != api.OK {
		return
	}
	slices.Sort(with[:])
	back, e := branch.Swap(swapped, slices.Index(swapped.Ties, with), x.Ties[i])
	sameTree(t, "P11.12: swapped back", back, e, tidyOf(t, x), api.OK)
}

// renamed returns the tree with other numbers of its knots, and its ties in another order.
func renamed(x branch.Tree, names []int, draw func(bound int) int) branch.Tree {
	other := tree(x.Knots)
	for _, tie := range x.Ties {
		tie = [2]int{names[tie[0]], names[tie[1]]}
		if draw(2) == 0 {
			tie[0], tie[1] = tie[1], tie[0]
		}
		other.Ties = slices.Insert(other.Ties, draw(len(other.Ties)+1), tie)
	}
	return other
}

// names returns the names of knots, in their order.
func namesOf(names, knots []int) []int {
	var l []int
	for _, knot := range knots {
		l = append(l, names[knot])
	}
	return l
}

// sorted returns a list in ascending order.
func sorted(l []int) []int {
	l = slices.Clone(l)
	slices.Sort(l)
	return l
}

// someNames calls do with trees, the same ones with other numbers of their knots, and these numbers.
func someNames(do func(x, other branch.Tree, names []int)) {
	i := 0
	someTrees(func(x branch.Tree) {
		draw := seeds(i)
		i++
		names := drawnOrder(draw, x.Knots)
		do(x, renamed(x, names, draw), names)
	})
}

// P11.13, F5: with other numbers of the knots the shape stays, and With.
func TestShapeStays(t *testing.T) {
	someNames(func(x, other branch.Tree, names []int) {
		is, e := branch.Alike(x, other)
		sameTruth(t, "P11.13: Alike", is, e, true, api.OK)
		one := checked[string](t, "Shape")(branch.Shape(x))
		if shape := checked[string](t, "Shape")(branch.Shape(other)); shape != one {
			t.Errorf("P11.13: Shape of %v and %v: %q, %q", x, other, one, shape)
		}
		n, e := branch.With(degreesOf(x))
		m, f := branch.With(degreesOf(other))
		sameNumber(t, "P11.13: With", n, e, m, f)
	})
}

// P11.13, F5: degrees, ways, reach, middle and rounds go with the knots.
func TestNamesOfKnots(t *testing.T) {
	someNames(func(x, other branch.Tree, names []int) {
		degrees, reaches := checked[[]int](t, "Degrees")(branch.Degrees(x)), checked[[]int](t, "Reach")(branch.Reach(x))
		l, e := branch.Degrees(other)
		same(t, "P11.13: Degrees", namesOf(l, names), e, degrees, api.OK)
		l, e = branch.Reach(other)
		same(t, "P11.13: Reach", namesOf(l, names), e, reaches, api.OK)
		l, e = branch.Middle(other)
		same(t, "P11.13: Middle", l, e, sorted(namesOf(names, middleOf(t, x))), api.OK)
		rounds := checked[[][]int](t, "Rounds")(branch.Rounds(x))
		for i, round := range rounds {
			rounds[i] = sorted(namesOf(names, round))
		}
		r, e := branch.Rounds(other)
		sameLists(t, "P11.13: Rounds", r, e, rounds, api.OK)
		for _, way := range waysOf(t, x) {
			l, e := branch.Way(other, names[way[0]], names[way[len(way)-1]])
			same(t, "P11.13: Way", l, e, namesOf(names, way), api.OK)
		}
	})
}

// P11.13, F5: the order of the ties and of their knots changes nothing.
func TestOrderOfTies(t *testing.T) {
	someTrees(func(x branch.Tree) {
		other := renamed(x, numbersFrom(0, x.Knots-1), seeds(len(x.Ties)))
		one, two := callsOfTree(x, 0, [2]int{}), callsOfTree(other, 0, [2]int{})
		for i, call := range one {
			if call.name == "Swap" {
				continue
			}
			if before, after := call.results(), two[i].results(); !slices.EqualFunc(before, after, alike) {
				t.Errorf("F5: %s of %v: %v, of %v: %v", call.name, x, before, other, after)
			}
		}
	})
}

// P11.13: trees with the same shape have the same degrees and reaches in some order.
func TestSameShapes(t *testing.T) {
	for knots := 1; knots <= 6; knots++ {
		first := map[string]branch.Tree{}
		for _, x := range treesOf(knots) {
			shape := checked[string](t, "Shape")(branch.Shape(x))
			if _, found := first[shape]; !found {
				first[shape] = x
			}
			other := first[shape]
			same(t, "P11.13: degrees", sorted(degreesOf(x)), api.OK, sorted(degreesOf(other)), api.OK)
			reaches, e := branch.Reach(x)
			others, f := branch.Reach(other)
			same(t, "P11.13: Reach", sorted(reaches), e, sorted(others), f)
		}
	}
}

// P11.14, F6.
func TestNumberAndNth(t *testing.T) {
	for knots := 1; knots <= 9; knots++ {
		count := checked[int](t, "Count")(branch.Count(knots))
		step := count/20000 + 1
		for number := 0; number < count; number += step {
			x := checked[branch.Tree](t, "Nth")(branch.Nth(knots, number))
			n, e := branch.Number(x)
			sameNumber(t, "P11.14: Number of Nth", n, e, number, api.OK)
		}
	}
	someTrees(func(x branch.Tree) {
		n := checked[int](t, "Number")(branch.Number(x))
		nth, e := branch.Nth(x.Knots, n)
		sameTree(t, "P11.14: Nth of Number", nth, e, tidyOf(t, x), api.OK)
	})
}

// P11.3, F5: the next number has the next list.
func TestNumbersAscend(t *testing.T) {
	for knots := 3; knots <= 9; knots++ {
		count := checked[int](t, "Count")(branch.Count(knots))
		step := count/5000 + 1
		for number := 1; number < count; number += step {
			one := checked[branch.Tree](t, "Nth")(branch.Nth(knots, number-1))
			other := checked[branch.Tree](t, "Nth")(branch.Nth(knots, number))
			if slices.Compare(listOf(one), listOf(other)) >= 0 {
				t.Errorf("P11.3: Nth of %d: %d, %v and %v", knots, number, one, other)
			}
		}
	}
}

package branch_test

// All results compared with what the chapter's definitions alone say. Here a tree is a list of ties.

import (
	"math"
	"slices"
	"testing"

	"aigrette/api"
	"aigrette/branch"
)

// seeds returns numbers that look as if they were drawn.
func seeds(seed int) func(bound int) int {
	state := uint32(seed*7919 + 17)
	return func(bound int) int {
		state = state*1664525 + 1013904223
		return int(state>>16) % bound
	}
}

// drawnOrder returns the numbers from 0 on in an order that looks as if it was drawn.
func drawnOrder(draw func(bound int) int, count int) []int {
	var order []int
	for number := range count {
		order = slices.Insert(order, draw(number+1), number)
	}
	return order
}

// drawnTree returns a tree that looks as if it was drawn: each knot is tied to one of those before it, or to
// one of the last ones, and its ties are in no order.
func drawnTree(knots, seed int) branch.Tree {
	draw := seeds(seed)
	names := drawnOrder(draw, knots)
	t := tree(knots)
	for knot := 1; knot < knots; knot++ {
		other := draw(knot)
		if seed%3 == 0 {
			other = max(other, knot-2)
		}
		tie := [2]int{names[knot], names[other]}
		if draw(2) == 0 {
			tie[0], tie[1] = tie[1], tie[0]
		}
		t.Ties = slices.Insert(t.Ties, draw(knot), tie)
	}
	return t
}

// allTies returns all ties of so many knots, the smaller one first.
func allTies(knots int) [][2]int {
	var ties [][2]int
	for a := range knots {
		for b := a + 1; b < knots; b++ {
			ties = append(ties, [2]int{a, b})
		}
	}
	return ties
}

// groupsOf returns for each knot the smallest one that can be reached from it.
func groupsOf(knots int, ties [][2]int) []int {
	groups := make([]int, knots)
	for knot := range groups {
		groups[knot] = knot
	}
	for _, tie := range ties {
		one, other := groups[tie[0]], groups[tie[1]]
		for knot, group := range groups {
			if group == one || group == other {
				groups[knot] = min(one, other)
			}
		}
	}
	return groups
}

// isTogether tells whether each knot can be reached from each other one.
func isTogether(knots int, ties [][2]int) bool {
	return slices.Max(groupsOf(knots, ties)) == 0
}

// treesOf returns all tidy trees of so many knots: all choices of ties that keep the knots together.
func treesOf(knots int) []branch.Tree {
	var all []branch.Tree
	ties := allTies(knots)
	var choose func(from int, chosen [][2]int)
	choose = func(from int, chosen [][2]int) {
		if len(chosen) == knots-1 {
			if isTogether(knots, chosen) {
				all = append(all, branch.Tree{Knots: knots, Ties: slices.Clone(chosen)})
			}
			return
		}
		for i := from; i < len(ties); i++ {
			choose(i+1, append(chosen, ties[i]))
		}
	}
	choose(0, nil)
	return all
}

// someTrees calls do with all tidy trees of up to six knots, and drawn ones of up to nine.
func someTrees(do func(x branch.Tree)) {
	for knots := 1; knots <= 6; knots++ {
		for _, x := range treesOf(knots) {
			do(x)
		}
	}
	for knots := 1; knots <= 9; knots++ {
		for seed := range 300 {
			do(drawnTree(knots, seed))
		}
	}
}

// errorOf returns the error of a tree.
func errorOf(x branch.Tree) api.Errno {
	if x.Knots < 1 || x.Knots > 9 {
		return api.ErrRange
	}
	for i, tie := range x.Ties {
		for _, knot := range tie {
			if knot < 0 || knot >= x.Knots {
				return api.ErrNone
			}
		}
		if tie[0] == tie[1] {
			return api.ErrClash
		}
		if before := x.Ties[:i]; slices.Contains(before, tie) || slices.Contains(before, [2]int{tie[1], tie[0]}) {
			return api.ErrTwice
		}
	}
	if len(x.Ties) >= x.Knots {
		return api.ErrMany
	}
	if !isTogether(x.Knots, x.Ties) {
		return api.ErrOpen
	}
	return api.OK
}

// pairsUpTo returns all pairs of numbers from -1 up to a bound.
func pairsUpTo(bound int) [][2]int {
	var pairs [][2]int
	for a := -1; a <= bound; a++ {
		for b := -1; b <= bound; b++ {
			pairs = append(pairs, [2]int{a, b})
		}
	}
	return pairs
}

// P11.1: Check of all lists of up to three ties of up to four knots, with numbers that are no knots.
func TestCheckOfAllTies(t *testing.T) {
	count := map[api.Errno]int{}
	var add func(x branch.Tree)
	add = func(x branch.Tree) {
		want := errorOf(x)
		count[want]++
		if e := branch.Check(x); e != want {
			t.Errorf("Check of %v: %d, want %d", x, e, want)
		}
		if len(x.Ties) < 3 {
			for _, tie := range pairsUpTo(x.Knots) {
				add(branch.Tree{Knots: x.Knots, Ties: append(slices.Clone(x.Ties), tie)})
			}
		}
	}
	for knots := 1; knots <= 4; knots++ {
		add(tree(knots))
	}
	for _, e := range []api.Errno{api.OK, api.ErrNone, api.ErrClash, api.ErrTwice, api.ErrMany, api.ErrOpen} {
		if count[e] == 0 {
			t.Errorf("no ties with the error %d", e)
		}
	}
}

// P11.1: Check of drawn ties of up to nine knots.
func TestCheckOfDrawnTies(t *testing.T) {
	for seed := range 20000 {
		draw := seeds(seed)
		knots := draw(9) + 1
		x := drawnTree(knots, seed)
		for range draw(3) {
			tie := [2]int{draw(knots), draw(knots)}
			if draw(9) == 0 {
				tie[draw(2)] = draw(12) - 1
			}
			switch at := draw(len(x.Ties) + 1); {
			case at < len(x.Ties) && draw(3) > 0:
				x.Ties[at] = tie
			default:
				x.Ties = slices.Insert(x.Ties, at, tie)
			}
		}
		if e := branch.Check(x); e != errorOf(x) {
			t.Errorf("Check of %v: %d, want %d", x, e, errorOf(x))
		}
	}
}

// P11.1: the tidy tree has the same ties, the smaller knot of each first, in ascending order.
func TestTidyOfTrees(t *testing.T) {
	someTrees(func(x branch.Tree) {
		want := tree(x.Knots)
		for _, tie := range allTies(x.Knots) {
			if slices.Contains(x.Ties, tie) || slices.Contains(x.Ties, [2]int{tie[1], tie[0]}) {
				want.Ties = append(want.Ties, tie)
			}
		}
		got, e := branch.Tidy(x)
		sameTree(t, "Tidy", got, e, want, api.OK)
	})
}

// tiedTo returns the knots that a knot is tied to.
func tiedTo(ties [][2]int, knot int) []int {
	var others []int
	for _, tie := range ties {
		switch knot {
		case tie[0]:
			others = append(others, tie[1])
		case tie[1]:
			others = append(others, tie[0])
		}
	}
	return others
}

// without returns the ties that a knot has no part in.
func without(ties [][2]int, knot int) [][2]int {
	return slices.DeleteFunc(slices.Clone(ties), func(tie [2]int) bool { return tie[0] == knot || tie[1] == knot })
}

// listOf returns the list of a tree.
func listOf(x branch.Tree) []int {
	var l []int
	for ties := x.Ties; len(ties) > 1; {
		leaf := 0
		for len(tiedTo(ties, leaf)) != 1 {
			leaf++
		}
		l = append(l, tiedTo(ties, leaf)[0])
		ties = without(ties, leaf)
	}
	return l
}

// P11.2.
func TestWriteOfTrees(t *testing.T) {
	someTrees(func(x branch.Tree) {
		l, e := branch.Write(x)
		same(t, "Write", l, e, listOf(x), api.OK)
		tidy, _ := branch.Tidy(x)
		read, e := branch.Read(x.Knots, listOf(x))
		sameTree(t, "Read", read, e, tidy, api.OK)
	})
}

// P11.3: all trees of up to seven knots, in the order of their lists.
func TestNumberOfAllTrees(t *testing.T) {
	for knots := 1; knots <= 7; knots++ {
		all := treesOf(knots)
		slices.SortFunc(all, func(one, other branch.Tree) int { return slices.Compare(listOf(one), listOf(other)) })
		n, e := branch.Count(knots)
		sameNumber(t, "Count", n, e, len(all), api.OK)
		for number, x := range all {
			n, e := branch.Number(x)
			sameNumber(t, "Number", n, e, number, api.OK)
			nth, e := branch.Nth(knots, number)
			sameTree(t, "Nth", nth, e, x, api.OK)
		}
	}
}

// degreesOf returns the degree of each knot.
func degreesOf(x branch.Tree) []int {
	var degrees []int
	for knot := range x.Knots {
		degrees = append(degrees, len(tiedTo(x.Ties, knot)))
	}
	return degrees
}

// P11.4.
func TestDegreesOfTrees(t *testing.T) {
	someTrees(func(x branch.Tree) {
		l, e := branch.Degrees(x)
		same(t, "Degrees", l, e, degreesOf(x), api.OK)
	})
}

// listsOf returns all lists of so many numbers.
func listsOf(length int, numbers ...int) [][]int {
	all := lists(nil)
	for range length {
		var longer [][]int
		for _, l := range all {
			for _, number := range numbers {
				longer = append(longer, append(slices.Clone(l), number))
			}
		}
		all = longer
	}
	return all
}

// numbersFrom returns the numbers from one to another one.
func numbersFrom(first, last int) []int {
	var numbers []int
	for number := first; number <= last; number++ {
		numbers = append(numbers, number)
	}
	return numbers
}

// errorOfDegrees returns the error of With.
func errorOfDegrees(degrees []int) api.Errno {
	if len(degrees) == 0 || len(degrees) > 9 {
		return api.ErrRange
	}
	sum := 0
	for _, degree := range degrees {
		if degree < 0 || degree > len(degrees)-1 {
			return api.ErrNone
		}
		sum += degree
	}
	if sum != 2*len(degrees)-2 {
		return api.ErrSum
	}
	return api.OK
}

// P11.4: With of all lists of up to six numbers, and of all lists of seven numbers up to 5.
func TestWithOfAllDegrees(t *testing.T) {
	for knots := 1; knots <= 7; knots++ {
		count := map[[7]int]int{}
		for _, x := range treesOf(knots) {
			count[[7]int(append(degreesOf(x), times(7-knots, 0)...))]++
		}
		numbers := numbersFrom(-1, knots)
		if knots == 7 {
			numbers = numbersFrom(0, 5)
		}
		for _, degrees := range listsOf(knots, numbers...) {
			n, e := branch.With(degrees)
			want, wanted := count[[7]int(append(slices.Clone(degrees), times(7-knots, 0)...))], errorOfDegrees(degrees)
			if wanted != api.OK {
				want = 0
			}
			if n != want || e != wanted {
				t.Errorf("With of %v: %d %d, want %d %d", degrees, n, e, want, wanted)
			}
		}
	}
}

// P11.4: With of eight and nine degrees that look as if they were drawn, by taking off the first leaf: it can
// be tied to each other knot that has more ties.
func TestWithOfMoreDegrees(t *testing.T) {
	var treesWith func(degrees []int) int
	treesWith = func(degrees []int) int {
		if len(degrees) == 2 && degrees[0] == 1 && degrees[1] == 1 {
			return 1
		}
		leaf, sum := slices.Index(degrees, 1), 0
		if leaf < 0 || slices.Contains(degrees, 0) {
			return 0
		}
		for other, degree := range degrees {
			if degree > 1 {
				less := slices.Clone(degrees)
				less[other]--
				sum += treesWith(slices.Delete(less, leaf, leaf+1))
			}
		}
		return sum
	}
	for seed := range 1000 {
		draw := seeds(seed)
		knots := 8 + seed%2
		degrees := times(knots, 1)
		if seed%10 == 9 {
			degrees[draw(knots)] = 0
		}
		for left := 2*knots - 2 - knots; left > 0; left-- {
			degrees[draw(knots)]++
		}
		want := treesWith(degrees)
		if errorOfDegrees(degrees) != api.OK {
			want = 0
		}
		n, e := branch.With(degrees)
		sameNumber(t, "With", n, e, want, errorOfDegrees(degrees))
	}
}

// wayOf returns the way from the last knot of one that is begun to another knot, if there is one without a
// knot that was met before.
func wayOf(x branch.Tree, begun []int, b int) []int {
	last := begun[len(begun)-1]
	if last == b {
		return begun
	}
	for _, next := range tiedTo(x.Ties, last) {
		if !slices.Contains(begun, next) {
			if way := wayOf(x, append(slices.Clone(begun), next), b); way != nil {
				return way
			}
		}
	}
	return nil
}

// reachOf returns the reach of a knot.
func reachOf(x branch.Tree, a int) int {
	reach := 0
	for b := range x.Knots {
		reach = max(reach, len(wayOf(x, list(a), b))-1)
	}
	return reach
}

// P11.5.
func TestWayOfTrees(t *testing.T) {
	someTrees(func(x branch.Tree) {
		for a := -1; a <= x.Knots; a++ {
			for b := -1; b <= x.Knots; b++ {
				var want []int
				wanted := api.ErrNone
				if min(a, b) >= 0 && max(a, b) < x.Knots {
					want, wanted = wayOf(x, list(a), b), api.OK
				}
				l, e := branch.Way(x, a, b)
				same(t, "Way", l, e, want, wanted)
			}
		}
	})
}

// P11.5.
func TestReachAndMiddleOfTrees(t *testing.T) {
	someTrees(func(x branch.Tree) {
		var reaches, middle []int
		for knot := range x.Knots {
			reaches = append(reaches, reachOf(x, knot))
		}
		for knot, reach := range reaches {
			if reach == slices.Min(reaches) {
				middle = append(middle, knot)
			}
		}
		l, e := branch.Reach(x)
		same(t, "Reach", l, e, reaches, api.OK)
		l, e = branch.Middle(x)
		same(t, "Middle", l, e, middle, api.OK)
	})
}

// P11.6.
func TestRoundsOfTrees(t *testing.T) {
	someTrees(func(x branch.Tree) {
		var want [][]int
		ties, left := x.Ties, numbersFrom(0, x.Knots-1)
		for len(left) > 0 {
			var round, rest []int
			for _, knot := range left {
				if len(tiedTo(ties, knot)) <= 1 {
					round = append(round, knot)
				} else {
					rest = append(rest, knot)
				}
			}
			for _, knot := range round {
				ties = without(ties, knot)
			}
			want, left = append(want, round), rest
		}
		r, e := branch.Rounds(x)
		sameLists(t, "Rounds", r, e, want, api.OK)
	})
}

// swapOf returns the tree with another tie instead of one, and the error.
func swapOf(x branch.Tree, tie int, with [2]int) (branch.Tree, api.Errno) {
	if tie < 0 || tie >= len(x.Ties) {
		return branch.Tree{}, api.ErrRange
	}
	if e := errorOf(branch.Tree{Knots: x.Knots, Ties: [][2]int{with}}); e == api.ErrNone || e == api.ErrClash {
		return branch.Tree{}, e
	}
	other := branch.Tree{Knots: x.Knots, Ties: append(slices.Delete(slices.Clone(x.Ties), tie, tie+1), with)}
	if errorOf(other) != api.OK {
		return branch.Tree{}, api.ErrLost
	}
	for i, tie := range other.Ties {
		other.Ties[i] = [2]int{min(tie[0], tie[1]), max(tie[0], tie[1])}
	}
	slices.SortFunc(other.Ties, func(one, other [2]int) int { return slices.Compare(one[:], other[:]) })
	return other, api.OK
}

// P11.7.
func TestSwapOfTrees(t *testing.T) {
	i := 0
	someTrees(func(x branch.Tree) {
		i++
		if x.Knots > 5 && i%10 > 0 {
			return
		}
		for tie := -1; tie <= len(x.Ties); tie++ {
			for _, with := range append(pairsUpTo(x.Knots), [2]int{math.MinInt, math.MaxInt}) {
				want, wanted := swapOf(x, tie, with)
				got, e := branch.Swap(x, tie, with)
				sameTree(t, "Swap", got, e, want, wanted)
			}
		}
	})
}

// orders returns how many orders of the knots make one tree the other one. Begun is an order that was begun.
func orders(one, other branch.Tree, begun []int) int {
	if len(begun) == one.Knots {
		return 1
	}
	found, knot := 0, len(begun)
	for place := range other.Knots {
		fits := !slices.Contains(begun, place)
		for before, at := range begun {
			fits = fits && isTied(one, before, knot) == isTied(other, at, place)
		}
		if fits {
			found += orders(one, other, append(slices.Clone(begun), place))
		}
	}
	return found
}

func isTied(x branch.Tree, a, b int) bool {
	return slices.Contains(x.Ties, [2]int{a, b}) || slices.Contains(x.Ties, [2]int{b, a})
}

// haveSameShape tells whether two trees have the same shape.
func haveSameShape(one, other branch.Tree) bool {
	return one.Knots == other.Knots && orders(one, other, nil) > 0
}

// compareShapes checks Shape and Alike of two trees.
func compareShapes(t *testing.T, one, other branch.Tree) bool {
	t.Helper()
	want := haveSameShape(one, other)
	is, e := branch.Alike(one, other)
	first, f := branch.Shape(one)
	second, g := branch.Shape(other)
	if is != want || (first == second) != want || e != api.OK || f != api.OK || g != api.OK {
		t.Errorf("Alike of %v and %v: %v %d, %q %d, %q %d, want %v", one, other, is, e, first, f, second, g, want)
	}
	return want
}

// P11.8: all pairs of trees of up to five knots.
func TestShapeOfAllPairs(t *testing.T) {
	var all []branch.Tree
	for knots := 1; knots <= 5; knots++ {
		all = append(all, treesOf(knots)...)
	}
	for _, one := range all {
		for _, other := range all {
			compareShapes(t, one, other)
		}
	}
}

// P11.8: drawn pairs of trees of six to nine knots.
func TestShapeOfDrawnPairs(t *testing.T) {
	count := [2]int{}
	for seed := range 4000 {
		knots := 6 + seed%4
		if compareShapes(t, drawnTree(knots, seed), drawnTree(knots, seed+1000*(seed%7+1))) {
			count[1]++
		} else {
			count[0]++
		}
	}
	if min(count[0], count[1]) < 100 {
		t.Errorf("only %v pairs", count)
	}
}

// firstOfShapes returns one tree for each string of Shape, of so many knots. Each tree is one with a knot less
// to which a leaf is tied.
func firstOfShapes(t *testing.T, knots int) []branch.Tree {
	t.Helper()
	if knots == 1 {
		return []branch.Tree{tree(1)}
	}
	var found []branch.Tree
	seen := map[string]bool{}
	for _, smaller := range firstOfShapes(t, knots-1) {
		for knot := range knots - 1 {
			x := branch.Tree{Knots: knots, Ties: append(slices.Clone(smaller.Ties), [2]int{knot, knots - 1})}
			shape := checked[string](t, "Shape")(branch.Shape(x))
			if !seen[shape] {
				seen[shape] = true
				found = append(found, x)
			}
		}
	}
	return found
}

// P11.8, P11.9: each tree can be numbered in as many different ways as there are orders of its knots, divided
// by those that leave it as it is. If one shape had two strings, or two shapes one, there would be more or less
// trees than there are.
func TestAllShapes(t *testing.T) {
	factorial := 1
	for knots := 1; knots <= 9; knots++ {
		factorial *= knots
		all := firstOfShapes(t, knots)
		sum := 0
		for i, x := range all {
			sum += factorial / orders(x, x, nil)
			for _, other := range all[:i] {
				compareShapes(t, x, other)
			}
		}
		if n, _ := branch.Count(knots); sum != n || len(all) != list(1, 1, 1, 2, 3, 6, 11, 23, 47)[knots-1] {
			t.Errorf("%d knots: %d shapes of %d trees, Count %d", knots, len(all), sum, n)
		}
	}
}

package branch_test

// P11.1 to P11.8, and the table of examples.

import (
	"math"
	"slices"
	"testing"

	"aigrette/api"
	"aigrette/branch"
)

func list(l ...int) []int { return l }

func lists(l ...[]int) [][]int { return l }

// times returns a list of the same number.
func times(often, number int) []int { return slices.Repeat(list(number), often) }

// tree returns a tree: of its numbers, each two are a tie.
func tree(knots int, numbers ...int) branch.Tree {
	t := branch.Tree{Knots: knots}
	for pair := range slices.Chunk(numbers, 2) {
		t.Ties = append(t.Ties, [2]int(pair))
	}
	return t
}

// exampleS and exampleP are S and P of the table of examples.
func exampleS() branch.Tree { return tree(4, 0, 1, 1, 2, 1, 3) }

func exampleP() branch.Tree { return tree(4, 2, 0, 3, 0, 1, 3) }

// chain returns the tree in which each knot is tied to the next one.
func chain(knots int) branch.Tree {
	t := tree(knots)
	for knot := 1; knot < knots; knot++ {
		t.Ties = append(t.Ties, [2]int{knot - 1, knot})
	}
	return t
}

// star returns the tree in which all other knots are tied to one.
func star(knots, middle int) branch.Tree {
	t := tree(knots)
	for knot := range knots {
		if knot != middle {
			t.Ties = append(t.Ties, [2]int{middle, knot})
		}
	}
	return t
}

func sameError(t *testing.T, name string, got, want api.Errno) {
	t.Helper()
	if got != want {
		t.Errorf("%s: %d, want %d", name, got, want)
	}
}

func sameNumber(t *testing.T, name string, got int, e api.Errno, want int, wanted api.Errno) {
	t.Helper()
	if got != want || e != wanted {
		t.Errorf("%s: %d %d, want %d %d", name, got, e, want, wanted)
	}
}

func same(t *testing.T, name string, got []int, e api.Errno, want []int, wanted api.Errno) {
	t.Helper()
	if !slices.Equal(got, want) || e != wanted {
		t.Errorf("%s: %v %d, want %v %d", name, got, e, want, wanted)
	}
}

func sameLists(t *testing.T, name string, got [][]int, e api.Errno, want [][]int, wanted api.Errno) {
	t.Helper()
	if !slices.EqualFunc(got, want, slices.Equal[[]int]) || e != wanted {
		t.Errorf("%s: %v %d, want %v %d", name, got, e, want, wanted)
	}
}

func isSame(one, other branch.Tree) bool {
	return one.Knots == other.Knots && slices.Equal(one.Ties, other.Ties)
}

func sameTree(t *testing.T, name string, got branch.Tree, e api.Errno, want branch.Tree, wanted api.Errno) {
	t.Helper()
	if !isSame(got, want) || e != wanted {
		t.Errorf("%s: %v %d, want %v %d", name, got, e, want, wanted)
	}
}

func sameTruth(t *testing.T, name string, got bool, e api.Errno, want bool, wanted api.Errno) {
	t.Helper()
	if got != want || e != wanted {
		t.Errorf("%s: %v %d, want %v %d", name, got, e, want, wanted)
	}
}

func TestExamplesOfLists(t *testing.T) {
	l, e := branch.Write(exampleS())
	same(t, "Write of S", l, e, list(1, 1), api.OK)
	l, e = branch.Write(exampleP())
	same(t, "Write of P", l, e, list(3, 0), api.OK)
	x, e := branch.Read(4, list(1, 1))
	sameTree(t, "Read of 1, 1", x, e, tree(4, 0, 1, 1, 2, 1, 3), api.OK)
	x, e = branch.Read(4, list(3, 0))
	sameTree(t, "Read of 3, 0", x, e, tree(4, 0, 2, 0, 3, 1, 3), api.OK)
	x, e = branch.Tidy(exampleP())
	sameTree(t, "Tidy of P", x, e, tree(4, 0, 2, 0, 3, 1, 3), api.OK)
	n, e := branch.Number(exampleS())
	sameNumber(t, "Number of S", n, e, 5, api.OK)
	n, e = branch.Number(exampleP())
	sameNumber(t, "Number of P", n, e, 12, api.OK)
	x, e = branch.Nth(4, 0)
	sameTree(t, "Nth of 4, 0", x, e, tree(4, 0, 1, 0, 2, 0, 3), api.OK)
	for knots, count := range map[int]int{1: 1, 4: 16, 9: 4782969} {
		n, e := branch.Count(knots)
		sameNumber(t, "Count", n, e, count, api.OK)
	}
	for i, degrees := range lists(list(0), list(1, 3, 1, 1), list(2, 2, 1, 1)) {
		n, e := branch.With(degrees)
		sameNumber(t, "With", n, e, list(1, 1, 2)[i], api.OK)
	}
}

func TestExamplesOfWays(t *testing.T) {
	l, e := branch.Degrees(exampleS())
	same(t, "Degrees of S", l, e, list(1, 3, 1, 1), api.OK)
	l, e = branch.Reach(exampleS())
	same(t, "Reach of S", l, e, list(2, 1, 2, 2), api.OK)
	l, e = branch.Reach(exampleP())
	same(t, "Reach of P", l, e, list(2, 3, 3, 2), api.OK)
	l, e = branch.Middle(exampleS())
	same(t, "Middle of S", l, e, list(1), api.OK)
	l, e = branch.Middle(exampleP())
	same(t, "Middle of P", l, e, list(0, 3), api.OK)
	l, e = branch.Way(exampleP(), 2, 1)
	same(t, "Way of P, 2, 1", l, e, list(2, 0, 3, 1), api.OK)
	l, e = branch.Way(exampleP(), 0, 0)
	same(t, "Way of P, 0, 0", l, e, list(0), api.OK)
	r, e := branch.Rounds(exampleS())
	sameLists(t, "Rounds of S", r, e, lists(list(0, 2, 3), list(1)), api.OK)
	r, e = branch.Rounds(exampleP())
	sameLists(t, "Rounds of P", r, e, lists(list(1, 2), list(0, 3)), api.OK)
}

func TestExamplesOfShapes(t *testing.T) {
	x, e := branch.Swap(exampleS(), 2, [2]int{2, 3})
	sameTree(t, "Swap of S, 2 with 2 3", x, e, tree(4, 0, 1, 1, 2, 2, 3), api.OK)
	x, e = branch.Swap(exampleS(), 2, [2]int{0, 2})
	sameTree(t, "Swap of S, 2 with 0 2", x, e, branch.Tree{}, api.ErrLost)
	x, e = branch.Swap(exampleS(), 0, [2]int{0, 4})
	sameTree(t, "Swap of S, 0 with 0 4", x, e, branch.Tree{}, api.ErrNone)
	is, e := branch.Alike(exampleS(), exampleP())
	sameTruth(t, "Alike of S and P", is, e, false, api.OK)
	is, e = branch.Alike(exampleP(), exampleP())
	sameTruth(t, "Alike of P and P", is, e, true, api.OK)
}

// wrongTree is no tree.
type wrongTree struct {
	tree branch.Tree
	e    api.Errno
}

// wrong returns what is no tree.
func wrong() []wrongTree {
	eleven := chain(10)
	eleven.Ties = append(eleven.Ties, [2]int{9, 9})
	return []wrongTree{
		{tree(0), api.ErrRange},
		{tree(-1), api.ErrRange},
		{tree(10), api.ErrRange},
		{tree(math.MinInt), api.ErrRange},
		{tree(math.MaxInt), api.ErrRange},
		{chain(10), api.ErrRange},
		{eleven, api.ErrRange},
		{tree(0, 0, 0), api.ErrRange},
		{tree(2, 0, 2), api.ErrNone},
		{tree(2, 2, 0), api.ErrNone},
		{tree(2, -1, 0), api.ErrNone},
		{tree(2, 0, -1), api.ErrNone},
		{tree(2, 2, 2), api.ErrNone},
		{tree(1, 0, 1), api.ErrNone},
		{tree(9, 0, 9), api.ErrNone},
		{tree(9, math.MinInt, math.MaxInt), api.ErrNone},
		{tree(3, 0, 1, 1, 3), api.ErrNone},
		{tree(3, 0, 1, 0, 1<<32), api.ErrNone},
		{tree(1, 0, 0), api.ErrClash},
		{tree(2, 1, 1), api.ErrClash},
		{tree(3, 0, 1, 2, 2), api.ErrClash},
		{tree(3, 0, 1, 1, 1, 0, 1), api.ErrClash},
		{tree(2, 0, 1, 0, 1), api.ErrTwice},
		{tree(2, 0, 1, 1, 0), api.ErrTwice},
		{tree(3, 0, 1, 1, 2, 2, 1), api.ErrTwice},
		{tree(3, 0, 1, 1, 2, 1, 0, 0, 9), api.ErrTwice},
		{tree(3, 0, 1, 1, 2, 0, 2), api.ErrMany},
		{tree(4, 0, 1, 1, 2, 0, 2, 2, 3), api.ErrMany},
		{tree(5, 0, 1, 0, 2, 0, 3, 1, 2, 1, 3, 2, 3), api.ErrMany},
		{tree(2), api.ErrOpen},
		{tree(9), api.ErrOpen},
		{tree(3, 0, 1), api.ErrOpen},
		{tree(3, 1, 2), api.ErrOpen},
		{tree(4, 0, 1, 1, 2, 0, 2), api.ErrOpen},
		{tree(4, 1, 2, 2, 3, 1, 3), api.ErrOpen},
		{tree(4, 0, 1, 2, 3), api.ErrOpen},
		{tree(9, 0, 1, 1, 2, 2, 3, 3, 4, 5, 6, 6, 7, 7, 8, 8, 5), api.ErrOpen},
	}
}

// P11.1.
func TestCheck(t *testing.T) {
	for _, x := range wrong() {
		if e := branch.Check(x.tree); e != x.e {
			t.Errorf("Check of %v: %d, want %d", x.tree, e, x.e)
		}
	}
	for _, x := range []branch.Tree{tree(1), tree(2, 0, 1), tree(2, 1, 0), chain(9), star(9, 8), exampleS(), exampleP()} {
		if e := branch.Check(x); e != api.OK {
			t.Errorf("Check of %v: %d", x, e)
		}
	}
}

// P11.1: all functions of a tree return the error of Check, whatever else they are given.
func TestCheckAtFirst(t *testing.T) {
	for _, x := range wrong() {
		for _, number := range list(-1, 0, 9) {
			for _, call := range callsOfTree(x.tree, number, [2]int{0, number}) {
				if results := call.results(); results[len(results)-1] != x.e {
					t.Errorf("%s of %v: %v, want %d", call.name, x.tree, results, x.e)
				}
			}
		}
		for _, y := range wrong() {
			is, e := branch.Alike(x.tree, y.tree)
			sameTruth(t, "Alike of two that are no trees", is, e, false, x.e)
		}
		is, e := branch.Alike(exampleS(), x.tree)
		sameTruth(t, "Alike of a tree and what is none", is, e, false, x.e)
		is, e = branch.Alike(x.tree, exampleS())
		sameTruth(t, "Alike of what is no tree and a tree", is, e, false, x.e)
	}
}

// P11.1.
func TestTidy(t *testing.T) {
	for _, x := range []struct{ given, want branch.Tree }{
		{tree(1), tree(1)},
		{tree(2, 1, 0), tree(2, 0, 1)},
		{tree(3, 2, 1, 1, 0), tree(3, 0, 1, 1, 2)},
		{tree(3, 2, 1, 2, 0), tree(3, 0, 2, 1, 2)},
		{tree(5, 4, 3, 4, 2, 4, 1, 4, 0), tree(5, 0, 4, 1, 4, 2, 4, 3, 4)},
		{tree(5, 3, 0, 0, 2, 1, 0, 4, 0), tree(5, 0, 1, 0, 2, 0, 3, 0, 4)},
		{chain(9), chain(9)},
	} {
		got, e := branch.Tidy(x.given)
		sameTree(t, "Tidy", got, e, x.want, api.OK)
	}
}

// P11.2, P11.3.
func TestListAndNumber(t *testing.T) {
	for _, x := range []struct {
		tree   branch.Tree
		list   []int
		number int
	}{
		{tree(1), nil, 0},
		{tree(2, 0, 1), nil, 0},
		{tree(3, 0, 1, 0, 2), list(0), 0},
		{tree(3, 0, 1, 1, 2), list(1), 1},
		{tree(3, 0, 2, 1, 2), list(2), 2},
		{tree(5, 0, 4, 1, 3, 2, 3, 2, 4), list(4, 3, 2), 117},
		{tree(6, 0, 3, 1, 3, 2, 4, 3, 4, 4, 5), list(3, 3, 4, 4), 3*216 + 3*36 + 4*6 + 4},
		{star(9, 0), times(7, 0), 0},
		{tree(9, 0, 8, 1, 8, 2, 8, 3, 8, 4, 8, 5, 8, 6, 8, 7, 8), times(7, 8), 4782968},
		{chain(9), list(1, 2, 3, 4, 5, 6, 7), 672604},
	} {
		l, e := branch.Write(x.tree)
		same(t, "Write", l, e, x.list, api.OK)
		n, e := branch.Number(x.tree)
		sameNumber(t, "Number", n, e, x.number, api.OK)
		read, e := branch.Read(x.tree.Knots, x.list)
		sameTree(t, "Read", read, e, x.tree, api.OK)
		nth, e := branch.Nth(x.tree.Knots, x.number)
		sameTree(t, "Nth", nth, e, x.tree, api.OK)
	}
}

// wrongList is a list that cannot be read.
type wrongList struct {
	knots int
	list  []int
	e     api.Errno
}

// wrongLists returns lists that cannot be read.
func wrongLists() []wrongList {
	return []wrongList{
		{0, nil, api.ErrRange},
		{-1, nil, api.ErrRange},
		{10, times(8, 0), api.ErrRange},
		{math.MinInt, nil, api.ErrRange},
		{math.MaxInt, list(0), api.ErrRange},
		{10, list(10), api.ErrRange},
		{1, list(0), api.ErrShape},
		{2, list(0), api.ErrShape},
		{3, nil, api.ErrShape},
		{3, list(0, 0), api.ErrShape},
		{3, list(9, 9), api.ErrShape},
		{9, times(6, 0), api.ErrShape},
		{9, times(8, 0), api.ErrShape},
		{1, times(99, -1), api.ErrShape},
		{3, list(3), api.ErrNone},
		{3, list(-1), api.ErrNone},
		{4, list(0, 4), api.ErrNone},
		{4, list(math.MaxInt, 0), api.ErrNone},
		{9, list(0, 1, 2, 3, 4, 5, 9), api.ErrNone},
		{9, list(math.MinInt, 1, 2, 3, 4, 5, 6), api.ErrNone},
	}
}

// P11.2.
func TestWrongLists(t *testing.T) {
	for _, x := range wrongLists() {
		got, e := branch.Read(x.knots, x.list)
		sameTree(t, "Read", got, e, branch.Tree{}, x.e)
	}
}

// P11.3.
func TestCount(t *testing.T) {
	for i, want := range list(1, 1, 3, 16, 125, 1296, 16807, 262144, 4782969) {
		n, e := branch.Count(i + 1)
		sameNumber(t, "Count", n, e, want, api.OK)
		for _, number := range list(math.MinInt, -1, want, want+1, math.MaxInt) {
			x, e := branch.Nth(i+1, number)
			sameTree(t, "Nth", x, e, branch.Tree{}, api.ErrRange)
		}
		_, e = branch.Nth(i+1, want-1)
		sameError(t, "Nth of the last one", e, api.OK)
	}
	for _, knots := range list(math.MinInt, -1, 0, 10, 1<<32+4, math.MaxInt) {
		n, e := branch.Count(knots)
		sameNumber(t, "Count", n, e, 0, api.ErrRange)
		x, e := branch.Nth(knots, 0)
		sameTree(t, "Nth", x, e, branch.Tree{}, api.ErrRange)
	}
}

// P11.4.
func TestWith(t *testing.T) {
	for _, x := range []struct {
		degrees []int
		want    int
		e       api.Errno
	}{
		{list(0), 1, api.OK},
		{list(1, 1), 1, api.OK},
		{list(1, 2, 1), 1, api.OK},
		{list(2, 2, 1, 1), 2, api.OK},
		{list(1, 1, 2, 3, 1), 3, api.OK},
		{list(2, 2, 2, 1, 1), 6, api.OK},
		{list(2, 2, 2, 2, 2, 2, 2, 1, 1), 5040, api.OK},
		{list(3, 3, 3, 2, 1, 1, 1, 1, 1), 630, api.OK},
		{list(8, 1, 1, 1, 1, 1, 1, 1, 1), 1, api.OK},
		{list(1, 1, 1, 1, 1, 1, 1, 5, 4), 35, api.OK},
		{list(0, 2, 2), 0, api.OK},
		{list(0, 0, 3, 3), 0, api.OK},
		{list(8, 8, 0, 0, 0, 0, 0, 0, 0), 0, api.OK},
		{nil, 0, api.ErrRange},
		{times(10, 0), 0, api.ErrRange},
		{list(1, 1, 1, 1, 1, 1, 1, 1, 1, 9), 0, api.ErrRange},
		{times(99, -1), 0, api.ErrRange},
		{list(1), 0, api.ErrNone},
		{list(-1), 0, api.ErrNone},
		{list(2, 0), 0, api.ErrNone},
		{list(3, 1, 0), 0, api.ErrNone},
		{list(1, 4, -1), 0, api.ErrNone},
		{list(math.MaxInt, math.MinInt, 1), 0, api.ErrNone},
		{list(9, 0, 0, 0, 0, 0, 0, 0, 7), 0, api.ErrNone},
		{list(0, 0), 0, api.ErrSum},
		{list(0, 1), 0, api.ErrSum},
		{list(1, 1, 1), 0, api.ErrSum},
		{list(2, 2, 1), 0, api.ErrSum},
		{times(9, 8), 0, api.ErrSum},
		{list(2, 2, 2, 2, 2, 2, 2, 2, 1), 0, api.ErrSum},
	} {
		n, e := branch.With(x.degrees)
		sameNumber(t, "With", n, e, x.want, x.e)
	}
}

// comb returns a tree of nine knots: 3, 1, 4, 5 are a way, a leaf hangs on each of the first three, and two on 5.
func comb() branch.Tree { return tree(9, 5, 4, 3, 1, 4, 1, 3, 0, 1, 2, 7, 4, 5, 6, 8, 5) }

// P11.4, P11.5, P11.6.
func TestComb(t *testing.T) {
	l, e := branch.Degrees(comb())
	same(t, "Degrees", l, e, list(1, 3, 1, 2, 3, 3, 1, 1, 1), api.OK)
	l, e = branch.Reach(comb())
	same(t, "Reach", l, e, list(5, 3, 4, 4, 3, 4, 5, 4, 5), api.OK)
	l, e = branch.Middle(comb())
	same(t, "Middle", l, e, list(1, 4), api.OK)
	r, e := branch.Rounds(comb())
	sameLists(t, "Rounds", r, e, lists(list(0, 2, 6, 7, 8), list(3, 5), list(1, 4)), api.OK)
	l, e = branch.Way(comb(), 0, 8)
	same(t, "Way", l, e, list(0, 3, 1, 4, 5, 8), api.OK)
	l, e = branch.Way(comb(), 7, 2)
	same(t, "Way", l, e, list(7, 4, 1, 2), api.OK)
	l, e = branch.Write(comb())
	same(t, "Write", l, e, list(3, 1, 1, 4, 5, 4, 5), api.OK)
}

// P11.5, P11.6: trees of one or two knots, ways and stars.
func TestSmallTrees(t *testing.T) {
	for _, x := range []struct {
		tree          branch.Tree
		reach, middle []int
		rounds        [][]int
	}{
		{tree(1), list(0), list(0), lists(list(0))},
		{tree(2, 1, 0), list(1, 1), list(0, 1), lists(list(0, 1))},
		{tree(3, 0, 2, 2, 1), list(2, 2, 1), list(2), lists(list(0, 1), list(2))},
		{chain(9), list(8, 7, 6, 5, 4, 5, 6, 7, 8), list(4), lists(list(0, 8), list(1, 7), list(2, 6), list(3, 5), list(4))},
		{chain(8), list(7, 6, 5, 4, 4, 5, 6, 7), list(3, 4), lists(list(0, 7), list(1, 6), list(2, 5), list(3, 4))},
		{star(9, 4), list(2, 2, 2, 2, 1, 2, 2, 2, 2), list(4), lists(list(0, 1, 2, 3, 5, 6, 7, 8), list(4))},
	} {
		l, e := branch.Reach(x.tree)
		same(t, "Reach", l, e, x.reach, api.OK)
		l, e = branch.Middle(x.tree)
		same(t, "Middle", l, e, x.middle, api.OK)
		r, e := branch.Rounds(x.tree)
		sameLists(t, "Rounds", r, e, x.rounds, api.OK)
	}
}

// P11.5.
func TestWrongWays(t *testing.T) {
	for _, knots := range [][2]int{{4, 0}, {0, 4}, {-1, 0}, {0, -1}, {4, 4}, {math.MinInt, 1}, {1, math.MaxInt}} {
		l, e := branch.Way(exampleS(), knots[0], knots[1])
		same(t, "Way", l, e, nil, api.ErrNone)
	}
	l, e := branch.Way(tree(1), 0, 0)
	same(t, "Way of one knot", l, e, list(0), api.OK)
	l, e = branch.Way(tree(1), 0, 1)
	same(t, "Way of one knot to none", l, e, nil, api.ErrNone)
}

// P11.7.
func TestSwap(t *testing.T) {
	for _, x := range []struct {
		tree branch.Tree
		tie  int
		with [2]int
		want branch.Tree
		e    api.Errno
	}{
		{exampleS(), 0, [2]int{0, 2}, tree(4, 0, 2, 1, 2, 1, 3), api.OK},
		{exampleS(), 1, [2]int{2, 0}, tree(4, 0, 1, 0, 2, 1, 3), api.OK},
		{exampleS(), 2, [2]int{1, 3}, exampleS(), api.OK},
		{exampleS(), 2, [2]int{3, 1}, exampleS(), api.OK},
		{exampleP(), 0, [2]int{2, 1}, tree(4, 0, 3, 1, 2, 1, 3), api.OK},
		{exampleP(), 1, [2]int{1, 2}, tree(4, 0, 2, 1, 2, 1, 3), api.OK},
		{tree(2, 1, 0), 0, [2]int{1, 0}, tree(2, 0, 1), api.OK},
		{exampleS(), 2, [2]int{0, 1}, branch.Tree{}, api.ErrLost},
		{exampleS(), 2, [2]int{2, 1}, branch.Tree{}, api.ErrLost},
		{exampleP(), 2, [2]int{2, 3}, branch.Tree{}, api.ErrLost},
		{exampleS(), 0, [2]int{4, 0}, branch.Tree{}, api.ErrNone},
		{exampleS(), 0, [2]int{-1, 0}, branch.Tree{}, api.ErrNone},
		{exampleS(), 0, [2]int{4, 4}, branch.Tree{}, api.ErrNone},
		{exampleS(), 0, [2]int{0, math.MaxInt}, branch.Tree{}, api.ErrNone},
		{exampleS(), 0, [2]int{0, 0}, branch.Tree{}, api.ErrClash},
		{exampleS(), 3, [2]int{0, 0}, branch.Tree{}, api.ErrRange},
		{exampleS(), -1, [2]int{0, 4}, branch.Tree{}, api.ErrRange},
		{exampleS(), math.MinInt, [2]int{0, 2}, branch.Tree{}, api.ErrRange},
		{exampleS(), math.MaxInt, [2]int{0, 2}, branch.Tree{}, api.ErrRange},
		{tree(1), 0, [2]int{0, 0}, branch.Tree{}, api.ErrRange},
	} {
		got, e := branch.Swap(x.tree, x.tie, x.with)
		sameTree(t, "Swap", got, e, x.want, x.e)
	}
}

// P11.8.
func TestAlike(t *testing.T) {
	for _, x := range []struct {
		one, other branch.Tree
		want       bool
	}{
		{tree(1), tree(1), true},
		{tree(1), tree(2, 0, 1), false},
		{tree(2, 0, 1), tree(2, 1, 0), true},
		{chain(3), star(3, 2), true},
		{chain(4), star(4, 0), false},
		{star(9, 0), star(9, 8), true},
		{star(8, 0), star(9, 0), false},
		{exampleP(), chain(4), true},
		{tree(5, 0, 1, 1, 2, 2, 3, 2, 4), tree(5, 4, 3, 3, 2, 2, 1, 2, 0), true},
		{tree(6, 0, 1, 1, 2, 2, 3, 3, 4, 1, 5), tree(6, 0, 1, 1, 2, 2, 3, 3, 4, 3, 5), true},
		{tree(6, 0, 1, 1, 2, 2, 3, 3, 4, 1, 5), tree(6, 0, 1, 1, 2, 2, 3, 3, 4, 2, 5), false},
		{tree(6, 0, 1, 1, 2, 2, 3, 1, 4, 2, 5), tree(6, 0, 5, 1, 5, 5, 4, 4, 3, 4, 2), true},
		// the same degrees and reaches, in some order
		{tree(8, 0, 1, 0, 2, 0, 3, 1, 4, 2, 5, 4, 6, 4, 7), tree(8, 0, 1, 0, 2, 0, 3, 1, 4, 1, 5, 2, 6, 6, 7), false},
	} {
		is, e := branch.Alike(x.one, x.other)
		sameTruth(t, "Alike", is, e, x.want, api.OK)
		one, e := branch.Shape(x.one)
		other, f := branch.Shape(x.other)
		sameTruth(t, "Shape", one == other, max(e, f), x.want, api.OK)
	}
}

package tray_test

// P8.1 to P8.8, and the table of examples.

import (
	"math"
	"slices"
	"testing"

	"aigrette/api"
	"aigrette/tray"
)

func list(l ...int) []int { return l }

func lists(l ...[]int) [][]int { return l }

func shelf(dyes int, trays ...[]int) tray.Shelf { return tray.Shelf{Dyes: dyes, Trays: trays} }

func sameError(t *testing.T, name string, got, want api.Errno) {
	t.Helper()
	if got != want {
		t.Errorf("%s: %d, want %d", name, got, want)
	}
}

func sameNumber(t *testing.T, name string, got int, e api.Errno, want int, wanted api.Errno) {
	t.Helper()
	if got != want || e != wanted {
		t.Errorf("%s: %d %d, want %d %d", name, got, e, want, wanted)
	}
}

func same(t *testing.T, name string, got []int, e api.Errno, want []int, wanted api.Errno) {
	t.Helper()
	if !slices.Equal(got, want) || e != wanted {
		t.Errorf("%s: %v %d, want %v %d", name, got, e, want, wanted)
	}
}

func alike(a, b [][]int) bool { return slices.EqualFunc(a, b, slices.Equal[[]int]) }

func sameTrays(t *testing.T, name string, got [][]int, e api.Errno, want [][]int, wanted api.Errno) {
	t.Helper()
	if !alike(got, want) || e != wanted {
		t.Errorf("%s: %v %d, want %v %d", name, got, e, want, wanted)
	}
}

func sameChains(t *testing.T, name string, got [][][]int, e api.Errno, want [][][]int, wanted api.Errno) {
	t.Helper()
	if !slices.EqualFunc(got, want, alike) || e != wanted {
		t.Errorf("%s: %v %d, want %v %d", name, got, e, want, wanted)
	}
}

func sameContained(t *testing.T, s tray.Shelf, inner, outer int, wanted api.Errno) {
	t.Helper()
	if i, o, e := tray.Contained(s); i != inner || o != outer || e != wanted {
		t.Errorf("Contained of %v: %d %d %d, want %d %d %d", s, i, o, e, inner, outer, wanted)
	}
}

func exampleS() tray.Shelf { return shelf(3, list(0), list(1, 2)) }

func exampleT() tray.Shelf { return shelf(3, list(0, 1), list(0), list(1, 2)) }

func TestExamplesOfShelves(t *testing.T) {
	sameContained(t, exampleS(), 0, 0, api.ErrLost)
	sameContained(t, exampleT(), 1, 0, api.OK)
	n, e := tray.Orders(exampleS())
	sameNumber(t, "Orders of S", n, e, 4, api.OK)
	n, e = tray.Orders(exampleT())
	sameNumber(t, "Orders of T", n, e, 5, api.OK)
	l, e := tray.Shadow(exampleS())
	sameTrays(t, "Shadow of S", l, e, lists(nil, list(1), list(2)), api.OK)
	l, e = tray.Shade(exampleS())
	sameTrays(t, "Shade of S", l, e, lists(list(0, 1), list(0, 1, 2), list(0, 2)), api.OK)
}

func TestExamplesOfChains(t *testing.T) {
	n, e := tray.Most(3)
	sameNumber(t, "Most of 3", n, e, 3, api.OK)
	n, e = tray.Most(6)
	sameNumber(t, "Most of 6", n, e, 20, api.OK)
	f, e := tray.Free(3, 1)
	same(t, "Free of 1", f, e, list(2), api.OK)
	f, e = tray.Free(3)
	same(t, "Free of none", f, e, list(0, 1, 2), api.OK)
	c, e := tray.Chain(3, 1)
	sameTrays(t, "Chain of 1", c, e, lists(list(1), list(1, 2)), api.OK)
	c, e = tray.Chain(3, 0, 2)
	sameTrays(t, "Chain of 0 2", c, e, lists(list(2), list(0, 2)), api.OK)
	c, e = tray.Chain(3, 0)
	sameTrays(t, "Chain of 0", c, e, lists(nil, list(0), list(0, 1), list(0, 1, 2)), api.OK)
	all, e := tray.Chains(2)
	sameChains(t, "Chains of 2", all, e, [][][]int{{nil, {0}, {0, 1}}, {{1}}}, api.OK)
}

func TestExamplesOfNumbers(t *testing.T) {
	n, e := tray.Number(4, 1, 2)
	sameNumber(t, "Number of 1 2", n, e, 2, api.OK)
	n, e = tray.Number(4, 0, 3)
	sameNumber(t, "Number of 0 3", n, e, 3, api.OK)
	l, e := tray.Nth(4, 2, 5)
	same(t, "Nth of 4, 2, 5", l, e, list(2, 3), api.OK)
	for _, x := range [][4]int{{4, 2, 3, 3}, {4, 2, 4, 4}, {3, 0, 1, 0}} {
		n, e = tray.Lean(x[0], x[1], x[2])
		sameNumber(t, "Lean", n, e, x[3], api.OK)
	}
}

// wrongShelf is a shelf with an error.
type wrongShelf struct {
	shelf tray.Shelf
	e     api.Errno
}

// wrong returns shelves with an error.
func wrong() []wrongShelf {
	long := make([]int, 1000)
	return []wrongShelf{
		{shelf(0), api.ErrRange},
		{shelf(7), api.ErrRange},
		{shelf(-1), api.ErrRange},
		{shelf(math.MinInt), api.ErrRange},
		{shelf(math.MaxInt), api.ErrRange},
		{shelf(64, list(63)), api.ErrRange},
		{shelf(0, nil, nil), api.ErrRange},
		{shelf(7, list(9), list(1, 0)), api.ErrRange},
		{shelf(1, list(1)), api.ErrNone},
		{shelf(2, list(2)), api.ErrNone},
		{shelf(2, list(-1)), api.ErrNone},
		{shelf(6, list(0, 1, 2, 3, 4, 5, 6)), api.ErrNone},
		{shelf(6, list(0), list(64)), api.ErrNone},
		{shelf(6, list(math.MaxInt)), api.ErrNone},
		{shelf(6, list(math.MinInt)), api.ErrNone},
		{shelf(3, list(0, 1), list(0, 3)), api.ErrNone},
		{shelf(3, list(1, -1)), api.ErrNone},
		{shelf(3, list(9, 1, 0)), api.ErrNone},
		{shelf(3, list(-1), nil, nil), api.ErrNone},
		{shelf(3, list(-1), list(1, 0)), api.ErrNone},
		{shelf(2, list(1, 0)), api.ErrOrder},
		{shelf(2, list(1, 1)), api.ErrOrder},
		{shelf(3, list(1, 0, 9)), api.ErrOrder},
		{shelf(6, list(0, 1, 2, 4, 3, 5)), api.ErrOrder},
		{shelf(6, list(0, 1, 1)), api.ErrOrder},
		{shelf(6, long), api.ErrOrder},
		{shelf(3, list(1, 0), list(9)), api.ErrOrder},
		{shelf(3, list(1), list(1, 1)), api.ErrOrder},
		{shelf(3, list(0, 1), list(1, 0)), api.ErrOrder},
		{shelf(2, nil, nil), api.ErrTwice},
		{shelf(2, nil, list()), api.ErrTwice},
		{shelf(1, list(0), list(0)), api.ErrTwice},
		{shelf(2, list(0), list(1), list(0)), api.ErrTwice},
		{shelf(3, list(0, 2), list(0, 1), list(0, 2)), api.ErrTwice},
		{shelf(2, list(0), list(0), list(5)), api.ErrTwice},
		{shelf(2, list(0), list(0), list(1, 0)), api.ErrTwice},
		{shelf(2, make([][]int, 1000)...), api.ErrTwice},
		{shelf(6, append(allTrays(6), nil)...), api.ErrTwice},
	}
}

// P8.1.
func TestCheck(t *testing.T) {
	for _, s := range []tray.Shelf{shelf(1), shelf(1, nil), shelf(1, list(0), nil), shelf(6), shelf(6, list(5)), shelf(6, list(0, 1, 2, 3, 4, 5), nil), shelf(6, allTrays(6)...), exampleS(), exampleT()} {
		sameError(t, "Check", tray.Check(s), api.OK)
	}
	for i, x := range wrong() {
		if e := tray.Check(x.shelf); e != x.e {
			t.Errorf("Check %d: %d, want %d", i, e, x.e)
		}
	}
}

// P8.1: all other functions return the error of Check at first.
func TestCheckAtFirst(t *testing.T) {
	for i, x := range wrong() {
		for _, call := range callsOfShelf(x.shelf) {
			results := call.results()
			if e := results[len(results)-1]; e != x.e {
				t.Errorf("%s %d: %v, want %d", call.name, i, results, x.e)
			}
		}
		for _, one := range x.shelf.Trays {
			wanted := tray.Check(shelf(x.shelf.Dyes, one))
			for _, call := range callsOfTray(x.shelf.Dyes, one) {
				results := call.results()
				if e := results[len(results)-1]; e != wanted {
					t.Errorf("%s of %d, %v: %v, want %d", call.name, x.shelf.Dyes, one, results, wanted)
				}
			}
		}
	}
}

// P8.2.
func TestContained(t *testing.T) {
	for _, x := range []struct {
		shelf        tray.Shelf
		inner, outer int
		e            api.Errno
	}{
		{shelf(4), 0, 0, api.ErrLost},
		{shelf(4, nil), 0, 0, api.ErrLost},
		{shelf(4, list(0, 1, 2, 3)), 0, 0, api.ErrLost},
		{shelf(4, list(0), list(1), list(2), list(3)), 0, 0, api.ErrLost},
		{shelf(4, list(0, 1), list(0, 2), list(2, 3)), 0, 0, api.ErrLost},
		{shelf(4, list(0, 1), list(0, 2, 3), list(1, 2, 3)), 0, 0, api.ErrLost},
		{shelf(4, nil, list(3)), 0, 1, api.OK},
		{shelf(4, list(3), nil), 1, 0, api.OK},
		{shelf(4, list(1, 3), list(0, 1, 2, 3)), 0, 1, api.OK},
		{shelf(3, list(0, 1, 2), list(0), nil), 1, 0, api.OK},
		{shelf(3, list(2), nil, list(0), list(1, 2)), 0, 3, api.OK},
		{shelf(4, list(0, 1), list(0, 2), list(2, 3), list(3)), 3, 2, api.OK},
		{shelf(4, list(0, 1), list(1, 2, 3), list(1), list(0, 2), list(2)), 2, 0, api.OK},
		{shelf(4, list(0, 1, 3), list(1, 2, 3), list(3), list(1), nil), 2, 0, api.OK},
		{shelf(6, list(0, 2, 4), list(1, 3, 5), list(0, 1, 2, 3), list(2, 3, 4), list(0, 2, 4, 5), list(0, 1, 2, 4)), 0, 4, api.OK},
	} {
		sameContained(t, x.shelf, x.inner, x.outer, x.e)
	}
}

// P8.3, P8.4.
func TestMost(t *testing.T) {
	for dyes, want := range list(0, 1, 2, 3, 6, 10, 20, 0) {
		wanted := api.OK
		if want == 0 {
			wanted = api.ErrRange
		}
		n, e := tray.Most(dyes)
		sameNumber(t, "Most", n, e, want, wanted)
		c, e := tray.Chains(dyes)
		sameNumber(t, "the number of Chains", len(c), e, want, wanted)
	}
	for _, dyes := range list(-1, -6, 8, 64, 1000, math.MinInt, math.MaxInt) {
		n, e := tray.Most(dyes)
		sameNumber(t, "Most", n, e, 0, api.ErrRange)
		c, e := tray.Chains(dyes)
		sameChains(t, "Chains", c, e, nil, api.ErrRange)
	}
}

// P8.4.
func TestChain(t *testing.T) {
	for _, x := range []struct {
		dyes       int
		tray, free []int
		chain      [][]int
	}{
		{1, nil, list(0), lists(nil, list(0))},
		{1, list(0), list(0), lists(nil, list(0))},
		{2, list(1), nil, lists(list(1))},
		{4, list(1, 3), nil, lists(list(1, 3))},
		{4, list(2, 3), nil, lists(list(2, 3))},
		{4, list(1), list(2, 3), lists(list(1), list(1, 2), list(1, 2, 3))},
		{4, list(3), list(0, 1), lists(list(3), list(0, 3), list(0, 1, 3))},
		{4, list(0, 3), list(0, 1), lists(list(3), list(0, 3), list(0, 1, 3))},
		{5, list(0, 1, 2, 3, 4), list(0, 1, 2, 3, 4), lists(nil, list(0), list(0, 1), list(0, 1, 2), list(0, 1, 2, 3), list(0, 1, 2, 3, 4))},
		{5, list(2, 3, 4), list(4), lists(list(2, 3), list(2, 3, 4))},
		{6, list(1, 4), list(2, 5), lists(list(1, 4), list(1, 2, 4), list(1, 2, 4, 5))},
		{6, list(0, 1, 3, 5), list(0, 1), lists(list(3, 5), list(0, 3, 5), list(0, 1, 3, 5))},
		{6, list(2, 4, 5), nil, lists(list(2, 4, 5))},
		{6, list(5), list(0, 1, 2, 3), lists(list(5), list(0, 5), list(0, 1, 5), list(0, 1, 2, 5), list(0, 1, 2, 3, 5))},
	} {
		l, e := tray.Free(x.dyes, x.tray...)
		same(t, "Free", l, e, x.free, api.OK)
		c, e := tray.Chain(x.dyes, x.tray...)
		sameTrays(t, "Chain", c, e, x.chain, api.OK)
	}
}

// P8.4.
func TestChains(t *testing.T) {
	c, e := tray.Chains(1)
	sameChains(t, "Chains of 1", c, e, [][][]int{{nil, {0}}}, api.OK)
	c, e = tray.Chains(3)
	sameChains(t, "Chains of 3", c, e, [][][]int{{nil, {0}, {0, 1}, {0, 1, 2}}, {{1}, {1, 2}}, {{2}, {0, 2}}}, api.OK)
	c, e = tray.Chains(4)
	sameChains(t, "Chains of 4", c, e, [][][]int{
		{nil, {0}, {0, 1}, {0, 1, 2}, {0, 1, 2, 3}},
		{{1}, {1, 2}, {1, 2, 3}},
		{{1, 3}},
		{{2}, {0, 2}, {0, 2, 3}},
		{{2, 3}},
		{{3}, {0, 3}, {0, 1, 3}},
	}, api.OK)
}

// P8.5, P8.6.
func TestOrders(t *testing.T) {
	for _, x := range []struct {
		shelf         tray.Shelf
		orders        int
		shadow, shade [][]int
	}{
		{shelf(3), 0, nil, nil},
		{shelf(1, nil), 1, nil, lists(list(0))},
		{shelf(1, list(0)), 1, lists(nil), nil},
		{shelf(1, list(0), nil), 1, lists(nil), lists(list(0))},
		{shelf(3, nil), 6, nil, lists(list(0), list(1), list(2))},
		{shelf(4, list(0, 1, 2, 3)), 24, lists(list(0, 1, 2), list(0, 1, 3), list(0, 2, 3), list(1, 2, 3)), nil},
		{shelf(4, list(2, 3), list(0, 1)), 8, lists(list(0), list(1), list(2), list(3)), lists(list(0, 1, 2), list(0, 1, 3), list(0, 2, 3), list(1, 2, 3))},
		{shelf(4, list(0), list(0, 1)), 8, lists(nil, list(0), list(1)), lists(list(0, 1), list(0, 1, 2), list(0, 1, 3), list(0, 2), list(0, 3))},
		{shelf(4, list(1), list(0, 2, 3)), 12, lists(nil, list(0, 2), list(0, 3), list(2, 3)), lists(list(0, 1), list(0, 1, 2, 3), list(1, 2), list(1, 3))},
		{shelf(6, list(5)), 120, lists(nil), lists(list(0, 5), list(1, 5), list(2, 5), list(3, 5), list(4, 5))},
		{shelf(6, list(0, 1, 2)), 36, lists(list(0, 1), list(0, 2), list(1, 2)), lists(list(0, 1, 2, 3), list(0, 1, 2, 4), list(0, 1, 2, 5))},
		{shelf(6, list(0, 2, 4), list(1, 3, 5)), 72, lists(list(0, 2), list(0, 4), list(1, 3), list(1, 5), list(2, 4), list(3, 5)), lists(list(0, 1, 2, 4), list(0, 1, 3, 5), list(0, 2, 3, 4), list(0, 2, 4, 5), list(1, 2, 3, 5), list(1, 3, 4, 5))},
	} {
		n, e := tray.Orders(x.shelf)
		sameNumber(t, "Orders", n, e, x.orders, api.OK)
		l, e := tray.Shadow(x.shelf)
		sameTrays(t, "Shadow", l, e, x.shadow, api.OK)
		l, e = tray.Shade(x.shelf)
		sameTrays(t, "Shade", l, e, x.shade, api.OK)
	}
	n, e := tray.Orders(shelf(6, allTrays(6)...))
	sameNumber(t, "Orders of all trays", n, e, 720, api.OK)
}

// P8.7.
func TestNumber(t *testing.T) {
	for _, x := range []struct {
		dyes, number int
		tray         []int
	}{
		{1, 0, nil},
		{1, 0, list(0)},
		{2, 1, list(1)},
		{3, 0, nil},
		{4, 0, list(0, 1)},
		{4, 1, list(0, 2)},
		{4, 2, list(1, 2)},
		{4, 3, list(0, 3)},
		{4, 4, list(1, 3)},
		{4, 5, list(2, 3)},
		{5, 0, list(0, 1, 2, 3, 4)},
		{5, 4, list(1, 2, 3, 4)},
		{6, 3, list(0, 3)},
		{6, 5, list(5)},
		{6, 9, list(2, 3, 4)},
		{6, 10, list(0, 1, 5)},
		{6, 19, list(3, 4, 5)},
	} {
		n, e := tray.Number(x.dyes, x.tray...)
		sameNumber(t, "Number", n, e, x.number, api.OK)
		l, e := tray.Nth(x.dyes, len(x.tray), x.number)
		same(t, "Nth", l, e, x.tray, api.OK)
	}
}

// P8.8.
func TestLean(t *testing.T) {
	for _, x := range [][4]int{{1, 0, 0, 0}, {1, 1, 1, 1}, {3, 0, 0, 0}, {4, 2, 0, 0}, {4, 2, 1, 2}, {4, 2, 2, 3}, {4, 2, 6, 4}, {5, 1, 3, 1}, {5, 3, 0, 0}, {5, 4, 2, 7}, {6, 2, 7, 5}, {6, 3, 1, 3}, {6, 3, 10, 10}, {6, 3, 11, 12}, {6, 3, 20, 15}, {6, 6, 0, 0}, {6, 6, 1, 6}} {
		n, e := tray.Lean(x[0], x[1], x[2])
		sameNumber(t, "Lean", n, e, x[3], api.OK)
	}
}

// P8.7, P8.8: numbers that are too small or too great.
func TestNthOutOfRange(t *testing.T) {
	for _, x := range []struct {
		dyes, size, n int
		nth, lean     api.Errno
	}{
		{0, 0, 0, api.ErrRange, api.ErrRange},
		{-1, -1, 0, api.ErrRange, api.ErrRange},
		{7, 2, 0, api.ErrRange, api.ErrRange},
		{7, 8, -1, api.ErrRange, api.ErrRange},
		{4, 5, 0, api.ErrRange, api.ErrRange},
		{4, -1, 0, api.ErrRange, api.ErrRange},
		{4, -1, 99, api.ErrRange, api.ErrRange},
		{6, 7, -1, api.ErrRange, api.ErrRange},
		{math.MaxInt, 2, 0, api.ErrRange, api.ErrRange},
		{math.MinInt, math.MinInt, 0, api.ErrRange, api.ErrRange},
		{6, math.MaxInt, 0, api.ErrRange, api.ErrRange},
		{6, math.MinInt, 0, api.ErrRange, api.ErrRange},
		{4, 2, 6, api.ErrNone, api.OK},
		{4, 2, 7, api.ErrNone, api.ErrNone},
		{4, 2, -1, api.ErrNone, api.ErrNone},
		{6, 6, 1, api.ErrNone, api.OK},
		{6, 6, 2, api.ErrNone, api.ErrNone},
		{3, 0, 1, api.ErrNone, api.OK},
		{3, 0, 2, api.ErrNone, api.ErrNone},
		{6, 3, math.MaxInt, api.ErrNone, api.ErrNone},
		{6, 3, math.MinInt, api.ErrNone, api.ErrNone},
	} {
		l, e := tray.Nth(x.dyes, x.size, x.n)
		same(t, "Nth", l, e, nil, x.nth)
		_, e = tray.Lean(x.dyes, x.size, x.n)
		sameError(t, "Lean", e, x.lean)
	}
}

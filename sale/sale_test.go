package sale_test

// P6.1 to P6.8, and the table of examples.

import (
	"math"
	"slices"
	"testing"

	"aigrette/api"
	"aigrette/sale"
)

func list(l ...int) []int { return l }

func lists(l ...[]int) [][]int { return l }

// exampleS and exampleT are S and T of the chapter's table.
func exampleS() [][]int { return lists(list(9, 5), list(8, 3), list(4, 4)) }

func exampleT() [][]int { return lists(list(7, 7), list(7, 2)) }

// noLots returns a sale without lots.
func noLots(bidders int) [][]int { return make([][]int, bidders) }

// full returns a sale in which all lots are worth the same to everybody.
func full(bidders, lots, worth int) [][]int {
	s := make([][]int, bidders)
	for i := range s {
		s[i] = slices.Repeat(list(worth), lots)
	}
	return s
}

func same(t *testing.T, name string, got []int, e api.Errno, want []int, wanted api.Errno) {
	t.Helper()
	if !slices.Equal(got, want) || e != wanted {
		t.Errorf("%s: %v %d, want %v %d", name, got, e, want, wanted)
	}
}

func sameNumber(t *testing.T, name string, got int, e api.Errno, want int, wanted api.Errno) {
	t.Helper()
	if got != want || e != wanted {
		t.Errorf("%s: %d %d, want %d %d", name, got, e, want, wanted)
	}
}

func sameLists(t *testing.T, name string, got [][]int, e api.Errno, want [][]int, wanted api.Errno) {
	t.Helper()
	if !slices.EqualFunc(got, want, slices.Equal[[]int]) || e != wanted {
		t.Errorf("%s: %v %d, want %v %d", name, got, e, want, wanted)
	}
}

func sameError(t *testing.T, name string, e, wanted api.Errno) {
	t.Helper()
	if e != wanted {
		t.Errorf("%s: %d, want %d", name, e, wanted)
	}
}

// told compares Told with lot, pays, gains.
func told(t *testing.T, s [][]int, bidder int, worths, want []int, wanted api.Errno) {
	t.Helper()
	lot, pays, gains, e := sale.Told(s, bidder, worths)
	if !slices.Equal(list(lot, pays, gains), want) || e != wanted {
		t.Errorf("Told of %v: %d with %v: %d %d %d %d, want %v %d", s, bidder, worths, lot, pays, gains, e, want, wanted)
	}
}

func TestExamplesOfBest(t *testing.T) {
	l, e := sale.Best(exampleS())
	same(t, "Best of S", l, e, list(0, -1, 1), api.OK)
	n, e := sale.Ties(exampleS())
	sameNumber(t, "Ties of S", n, e, 2, api.OK)
	n, e = sale.Worth(exampleS(), list(1, 0, -1))
	sameNumber(t, "Worth of S: 1, 0, -1", n, e, 13, api.OK)
	n, e = sale.Worth(exampleS(), list(1, 0, 0))
	sameNumber(t, "Worth of S: 1, 0, 0", n, e, 0, api.ErrTwice)
}

func TestExamplesOfPays(t *testing.T) {
	l, e := sale.Pays(exampleS())
	same(t, "Pays of S", l, e, list(8, 0, 4), api.OK)
	l, e = sale.Gains(exampleS())
	same(t, "Gains of S", l, e, list(1, 0, 0), api.OK)
	told(t, exampleS(), 0, list(9, 9), list(1, 4, 1), api.OK)
	told(t, exampleS(), 1, list(9, 3), list(0, 8, 0), api.OK)
}

func TestExamplesOfPrices(t *testing.T) {
	w, e := sale.Wanted(exampleS(), list(8, 4))
	sameLists(t, "Wanted of S at 8, 4", w, e, lists(list(0, 1), list(-1, 0), list(-1, 1)), api.OK)
	w, e = sale.Wanted(exampleS(), list(5, 5))
	sameLists(t, "Wanted of S at 5, 5", w, e, lists(list(0), list(0), list(-1)), api.OK)
	for _, x := range []struct {
		name         string
		s            [][]int
		lowest, most []int
	}{{"S", exampleS(), list(8, 4), list(8, 4)}, {"T", exampleT(), list(0, 0), list(7, 7)}} {
		l, e := sale.Lowest(x.s)
		same(t, "Lowest of "+x.name, l, e, x.lowest, api.OK)
		l, e = sale.Highest(x.s)
		same(t, "Highest of "+x.name, l, e, x.most, api.OK)
	}
	sameError(t, "Fair of S: 8, 4 with 1, 0, -1", sale.Fair(exampleS(), list(8, 4), list(1, 0, -1)), api.OK)
	sameError(t, "Fair of S: 8, 4 with 0, -1, 1", sale.Fair(exampleS(), list(8, 4), list(0, -1, 1)), api.OK)
	sameError(t, "Fair of S: 9, 4 with 1, 0, -1", sale.Fair(exampleS(), list(9, 4), list(1, 0, -1)), api.ErrProof)
	l, e := sale.Over(exampleS(), list(0, 0))
	same(t, "Over of S at 0, 0", l, e, list(0, 1), api.OK)
	l, e = sale.Over(exampleS(), list(5, 4))
	same(t, "Over of S at 5, 4", l, e, list(0, 1), api.OK)
	l, e = sale.Over(exampleS(), list(8, 4))
	same(t, "Over of S at 8, 4", l, e, nil, api.ErrClash)
}

// DOC.md, example 6.
func TestExampleOfOneLot(t *testing.T) {
	l, e := sale.Pays(lists(list(9), list(8)))
	same(t, "Pays", l, e, list(8, 0), api.OK)
}

// wrongSale is a sale with an error.
type wrongSale struct {
	sale [][]int
	e    api.Errno
}

// wrong returns sales with an error, with the error of each.
func wrong() []wrongSale {
	return []wrongSale{
		{nil, api.ErrEmpty},
		{lists(), api.ErrEmpty},
		{full(6, 5, 1), api.ErrMany},
		{noLots(6), api.ErrMany},
		{full(5, 6, 1), api.ErrMany},
		{full(1, 6, 100), api.ErrMany},
		{full(1000, 1, 1), api.ErrMany},
		{lists(make([]int, 1000)), api.ErrMany},
		{lists(make([]int, 6), list(1)), api.ErrMany},
		{append(full(5, 2, 1), list(1)), api.ErrMany},
		{lists(list(1), nil), api.ErrShape},
		{lists(nil, list(1)), api.ErrShape},
		{lists(list(1, 2), list(1)), api.ErrShape},
		{lists(list(1, 2), list(1, 2), list(1, 2, 3)), api.ErrShape},
		{lists(list(1), make([]int, 6)), api.ErrShape},
		{lists(list(1, 2), list(100), list(1, 2)), api.ErrShape},
		{lists(list(1, 2), list(1), list(1, 100)), api.ErrShape},
		{lists(list(1, 100), list(1)), api.ErrRange},
		{lists(list(-1)), api.ErrRange},
		{lists(list(100)), api.ErrRange},
		{lists(list(0, 99), list(99, 100)), api.ErrRange},
		{lists(list(0, 99), list(-1, 0), list(1)), api.ErrRange},
		{lists(list(math.MaxInt, 0)), api.ErrRange},
		{lists(list(0, math.MinInt)), api.ErrRange},
	}
}

// P6.1.
func TestCheck(t *testing.T) {
	for _, s := range [][][]int{noLots(1), noLots(5), lists(nil, list(), nil), full(1, 1, 0), full(5, 5, 99), full(1, 5, 0), full(5, 1, 99), exampleS(), exampleT()} {
		sameError(t, "Check", sale.Check(s), api.OK)
	}
	for i, x := range wrong() {
		if e := sale.Check(x.sale); e != x.e {
			t.Errorf("Check of sale %d, %v: %d, want %d", i, x.sale, e, x.e)
		}
	}
}

// P6.1: all other functions return the error of Check at first, whatever the other arguments are.
func TestCheckAtFirst(t *testing.T) {
	for _, x := range wrong() {
		for _, numbers := range lists(nil, list(0), list(-1), list(100, 100), list(0, 0), make([]int, 6)) {
			for _, call := range append(callsOfSale(x.sale), callsWithLists(x.sale, -1, numbers, numbers, numbers)...) {
				results := call.results()
				if e := results[len(results)-1]; e != x.e {
					t.Errorf("%s of %v, %v: %d, want %d", call.name, x.sale, numbers, e, x.e)
				}
			}
		}
	}
}

// P6.1: and then those that have prices return the error of them.
func TestPricesNext(t *testing.T) {
	for _, x := range []struct {
		prices []int
		e      api.Errno
	}{
		{nil, api.ErrShape}, {list(8), api.ErrShape}, {list(8, 4, 0), api.ErrShape}, {list(100), api.ErrShape}, {list(-1, 4, 0), api.ErrShape},
		{list(100, 0), api.ErrRange}, {list(0, 100), api.ErrRange}, {list(-1, 0), api.ErrRange}, {list(0, -1), api.ErrRange}, {list(math.MaxInt, math.MinInt), api.ErrRange},
	} {
		w, e := sale.Wanted(exampleS(), x.prices)
		sameLists(t, "Wanted", w, e, nil, x.e)
		l, e := sale.Over(exampleS(), x.prices)
		same(t, "Over", l, e, nil, x.e)
		for _, division := range lists(nil, list(0, 0, 0), list(9, 9, 9), list(1, 0, -1)) {
			sameError(t, "Fair", sale.Fair(exampleS(), x.prices, division), x.e)
		}
	}
	for _, prices := range lists(list(0), list(100)) {
		_, e := sale.Wanted(noLots(2), prices)
		_, f := sale.Over(noLots(2), prices)
		if g := sale.Fair(noLots(2), prices, list(-1, -1)); e != api.ErrShape || f != api.ErrShape || g != api.ErrShape {
			t.Errorf("%v without lots: %d %d %d", prices, e, f, g)
		}
	}
}

// wrongDivision is a division of S with an error, or worth something.
type wrongDivision struct {
	division []int
	worth    int
	e        api.Errno
}

// divisionsOfS returns divisions of S, most of them with an error.
func divisionsOfS() []wrongDivision {
	return []wrongDivision{
		{list(-1, -1, -1), 0, api.OK}, {list(0, 1, -1), 12, api.OK}, {list(1, 0, -1), 13, api.OK}, {list(-1, 1, 0), 7, api.OK}, {list(-1, -1, 1), 4, api.OK},
		{nil, 0, api.ErrShape}, {list(0, 1), 0, api.ErrShape}, {list(0, 1, -1, -1), 0, api.ErrShape}, {list(0, 0), 0, api.ErrShape}, {list(9, 9, 9, 9), 0, api.ErrShape},
		{list(2, 0, 1), 0, api.ErrNone}, {list(0, 1, 2), 0, api.ErrNone}, {list(-2, 0, 0), 0, api.ErrNone}, {list(0, -2, 0), 0, api.ErrNone}, {list(2, 2, 2), 0, api.ErrNone}, {list(0, 1, math.MaxInt), 0, api.ErrNone}, {list(math.MinInt, 0, 0), 0, api.ErrNone}, {list(-2, -2, -1), 0, api.ErrNone},
		{list(1, 1, -1), 0, api.ErrTwice}, {list(0, -1, 0), 0, api.ErrTwice}, {list(0, 0, 2), 0, api.ErrTwice}, {list(0, 0, -2), 0, api.ErrTwice}, {list(-1, 1, 1), 0, api.ErrTwice},
	}
}

// P6.2.
func TestWorth(t *testing.T) {
	for _, x := range divisionsOfS() {
		n, e := sale.Worth(exampleS(), x.division)
		sameNumber(t, "Worth", n, e, x.worth, x.e)
	}
	n, e := sale.Worth(full(5, 5, 99), list(4, 3, 2, 1, 0))
	sameNumber(t, "Worth of the greatest sale", n, e, 495, api.OK)
	n, e = sale.Worth(noLots(2), list(-1, -1))
	sameNumber(t, "Worth without lots", n, e, 0, api.OK)
	n, e = sale.Worth(noLots(2), list(-1, 0))
	sameNumber(t, "Worth without lots: -1, 0", n, e, 0, api.ErrNone)
}

// P6.2: of several divisions the first one, in which -1 comes before all lots.
func TestBestAndTies(t *testing.T) {
	for _, x := range []struct {
		s    [][]int
		best []int
		ties int
	}{
		{full(1, 0, 0), list(-1), 1},
		{noLots(5), list(-1, -1, -1, -1, -1), 1},
		{full(1, 1, 0), list(-1), 2},
		{full(2, 2, 0), list(-1, -1), 7},
		{full(5, 5, 0), list(-1, -1, -1, -1, -1), 1546},
		{full(5, 5, 99), list(0, 1, 2, 3, 4), 120},
		{full(5, 3, 1), list(-1, -1, 0, 1, 2), 60},
		{full(3, 5, 1), list(0, 1, 2), 60},
		{lists(list(0, 1, 1)), list(1), 2},
		{lists(list(5, 0), list(0, 0)), list(0, -1), 2},
		{lists(list(0, 0), list(0, 5)), list(-1, 1), 2},
		{lists(list(3, 5), list(5, 7)), list(0, 1), 2},
		{lists(list(3, 5), list(5, 6)), list(1, 0), 1},
	} {
		l, e := sale.Best(x.s)
		same(t, "Best", l, e, x.best, api.OK)
		n, e := sale.Ties(x.s)
		sameNumber(t, "Ties", n, e, x.ties, api.OK)
	}
}

// P6.3.
func TestPaysAndGains(t *testing.T) {
	for _, x := range []struct {
		s           [][]int
		pays, gains []int
	}{
		{lists(list(6, 4)), list(0), list(6)},
		{lists(list(3), list(10), list(8)), list(0, 8, 0), list(0, 2, 0)},
		{lists(list(10), list(10)), list(0, 10), list(0, 0)},
		{exampleT(), list(0, 0), list(7, 7)},
		{full(5, 5, 99), list(0, 0, 0, 0, 0), list(99, 99, 99, 99, 99)},
		{full(5, 4, 99), list(0, 99, 99, 99, 99), list(0, 0, 0, 0, 0)},
		{noLots(3), list(0, 0, 0), list(0, 0, 0)},
	} {
		l, e := sale.Pays(x.s)
		same(t, "Pays", l, e, x.pays, api.OK)
		l, e = sale.Gains(x.s)
		same(t, "Gains", l, e, x.gains, api.OK)
	}
}

// P6.4.
func TestTold(t *testing.T) {
	told(t, exampleS(), 0, list(9, 5), list(0, 8, 1), api.OK)
	told(t, exampleS(), 0, list(0, 0), list(-1, 0, 0), api.OK)
	told(t, exampleS(), 2, list(99, 0), list(0, 8, -4), api.OK)
	told(t, lists(list(0), list(99)), 0, list(99), list(-1, 0, 0), api.OK)
	told(t, lists(list(99), list(0)), 1, list(99), list(0, 99, -99), api.OK)
	told(t, lists(list(0)), 0, list(99), list(0, 0, 0), api.OK)
	told(t, noLots(2), 1, nil, list(-1, 0, 0), api.OK)
	for _, x := range []struct {
		bidder int
		worths []int
		e      api.Errno
	}{
		{3, list(1, 1), api.ErrNone}, {-1, list(1, 1), api.ErrNone}, {math.MaxInt, nil, api.ErrNone}, {math.MinInt, list(100, 0), api.ErrNone},
		{0, nil, api.ErrShape}, {1, list(1), api.ErrShape}, {2, list(1, 2, 3), api.ErrShape}, {0, list(100), api.ErrShape}, {0, list(-1, -1, -1), api.ErrShape},
		{0, list(100, 0), api.ErrRange}, {1, list(0, 100), api.ErrRange}, {2, list(-1, 0), api.ErrRange}, {2, list(0, -1), api.ErrRange}, {0, list(math.MinInt, math.MaxInt), api.ErrRange},
	} {
		told(t, exampleS(), x.bidder, x.worths, list(0, 0, 0), x.e)
	}
	told(t, noLots(2), 2, nil, list(0, 0, 0), api.ErrNone)
	told(t, noLots(2), 1, list(0), list(0, 0, 0), api.ErrShape)
}

// P6.5.
func TestWanted(t *testing.T) {
	for _, x := range []struct {
		s      [][]int
		prices []int
		want   [][]int
	}{
		{exampleS(), list(0, 0), lists(list(0), list(0), list(0, 1))},
		{exampleS(), list(9, 5), lists(list(-1, 0, 1), list(-1), list(-1))},
		{exampleS(), list(99, 99), lists(list(-1), list(-1), list(-1))},
		{full(2, 5, 99), list(99, 99, 99, 99, 99), lists(list(-1, 0, 1, 2, 3, 4), list(-1, 0, 1, 2, 3, 4))},
		{full(1, 5, 99), list(3, 1, 2, 1, 1), lists(list(1, 3, 4))},
		{full(1, 2, 0), list(0, 0), lists(list(-1, 0, 1))},
		{noLots(2), nil, lists(list(-1), list(-1))},
	} {
		w, e := sale.Wanted(x.s, x.prices)
		sameLists(t, "Wanted", w, e, x.want, api.OK)
	}
}

// P6.6.
func TestFair(t *testing.T) {
	for _, x := range divisionsOfS() {
		if x.e != api.OK {
			sameError(t, "Fair", sale.Fair(exampleS(), list(8, 4), x.division), x.e)
		}
	}
	for _, x := range []struct {
		s                [][]int
		prices, division []int
		e                api.Errno
	}{
		{exampleS(), list(8, 5), list(0, -1, 1), api.ErrProof},
		{exampleS(), list(8, 4), list(0, -1, -1), api.ErrProof},
		{exampleS(), list(0, 0), list(-1, -1, -1), api.ErrProof},
		{exampleS(), list(99, 99), list(-1, -1, -1), api.ErrProof},
		{lists(list(6, 4)), list(0, 0), list(0), api.OK},
		{lists(list(6, 4)), list(2, 0), list(0), api.OK},
		{lists(list(6, 4)), list(2, 0), list(1), api.ErrProof},
		{lists(list(6, 4)), list(3, 0), list(0), api.ErrProof},
		{lists(list(6, 4)), list(0, 1), list(0), api.ErrProof},
		{lists(list(6, 4)), list(0, 0), list(-1), api.ErrProof},
		{full(1, 1, 0), list(0), list(-1), api.OK},
		{full(1, 1, 0), list(0), list(0), api.OK},
		{full(1, 1, 0), list(1), list(-1), api.ErrProof},
		{full(1, 1, 99), list(99), list(0), api.OK},
		{full(1, 1, 99), list(99), list(-1), api.ErrProof},
		{noLots(3), nil, list(-1, -1, -1), api.OK},
	} {
		if e := sale.Fair(x.s, x.prices, x.division); e != x.e {
			t.Errorf("Fair of %v: %v with %v: %d, want %d", x.s, x.prices, x.division, e, x.e)
		}
	}
}

// P6.7.
func TestLowestAndHighest(t *testing.T) {
	for _, x := range []struct {
		s               [][]int
		lowest, highest []int
	}{
		{lists(list(3), list(10), list(8)), list(8), list(10)},
		{lists(list(6, 4)), list(0, 0), list(2, 0)},
		{lists(list(10, 6, 0), list(9, 9, 3), list(2, 8, 7)), list(1, 1, 0), list(10, 9, 7)},
		{full(5, 4, 99), list(99, 99, 99, 99), list(99, 99, 99, 99)},
		{full(4, 5, 99), list(0, 0, 0, 0, 0), list(0, 0, 0, 0, 0)},
		{full(5, 5, 99), list(0, 0, 0, 0, 0), list(99, 99, 99, 99, 99)},
		{full(3, 3, 0), list(0, 0, 0), list(0, 0, 0)},
		{noLots(2), nil, nil},
	} {
		l, e := sale.Lowest(x.s)
		same(t, "Lowest", l, e, x.lowest, api.OK)
		l, e = sale.Highest(x.s)
		same(t, "Highest", l, e, x.highest, api.OK)
	}
}

// P6.8: as few bidders as possible, and the first ones of them.
func TestOver(t *testing.T) {
	pairs := lists(list(9, 9, 0, 0), list(9, 9, 0, 0), list(9, 9, 0, 0), list(0, 0, 9, 0), list(0, 0, 9, 0))
	for _, x := range []struct {
		s            [][]int
		prices, want []int
		e            api.Errno
	}{
		{pairs, list(0, 0, 0, 0), list(3, 4), api.OK},
		{pairs, list(0, 0, 9, 0), list(0, 1, 2), api.OK},
		{pairs, list(9, 9, 0, 0), list(3, 4), api.OK},
		{pairs, list(9, 9, 9, 0), nil, api.ErrClash},
		{pairs, list(0, 1, 9, 0), list(0, 1), api.OK},
		{full(3, 2, 5), list(1, 1), list(0, 1, 2), api.OK},
		{full(3, 2, 5), list(5, 5), nil, api.ErrClash},
		{full(3, 2, 5), list(1, 2), list(0, 1), api.OK},
		{lists(list(5), list(3), list(5)), list(3), list(0, 2), api.OK},
		{lists(list(1, 0), list(0, 1), list(0, 1), list(1, 0)), list(0, 0), list(0, 3), api.OK},
		{full(5, 4, 99), list(98, 98, 98, 98), list(0, 1, 2, 3, 4), api.OK},
		{full(1, 0, 0), nil, nil, api.ErrClash},
		{full(1, 1, 99), list(0), nil, api.ErrClash},
	} {
		l, e := sale.Over(x.s, x.prices)
		same(t, "Over", l, e, x.want, x.e)
	}
}

package sale_test

// P6.9 to P6.14, and with them F1 to F5 and F7 for this layer.

import (
	"slices"
	"testing"

	"aigrette/api"
	"aigrette/sale"
)

// must returns a list without an error.
func must(t *testing.T, name string, s [][]int, ask func([][]int) ([]int, api.Errno)) []int {
	t.Helper()
	l, e := ask(s)
	if e != api.OK {
		t.Fatalf("%s of %v: %d", name, s, e)
	}
	return l
}

func best(t *testing.T, s [][]int) []int {
	t.Helper()
	return must(t, "Best", s, sale.Best)
}

func pays(t *testing.T, s [][]int) []int {
	t.Helper()
	return must(t, "Pays", s, sale.Pays)
}

func gains(t *testing.T, s [][]int) []int {
	t.Helper()
	return must(t, "Gains", s, sale.Gains)
}

func lowest(t *testing.T, s [][]int) []int {
	t.Helper()
	return must(t, "Lowest", s, sale.Lowest)
}

func highest(t *testing.T, s [][]int) []int {
	t.Helper()
	return must(t, "Highest", s, sale.Highest)
}

// worth returns the greatest worth.
func worth(t *testing.T, s [][]int) int {
	t.Helper()
	n, e := sale.Worth(s, best(t, s))
	if e != api.OK {
		t.Fatalf("Worth of Best of %v: %d", s, e)
	}
	return n
}

func ties(t *testing.T, s [][]int) int {
	t.Helper()
	n, e := sale.Ties(s)
	if e != api.OK {
		t.Fatalf("Ties of %v: %d", s, e)
	}
	return n
}

// everySale calls do with all small sales and some larger ones.
func everySale(do func(s [][]int)) {
	for _, s := range append(smallSales(), largerSales()...) {
		do(s)
	}
}

// lies returns worths that a bidder may write down: in small sales all small ones, else some that differ
// a little from the bidder's own, and some others.
func lies(s [][]int, bidder int) [][]int {
	if lotsOf(s) <= 2 && len(s) <= 3 {
		return listsOf(lotsOf(s), 0, 5)
	}
	all := lists(make([]int, lotsOf(s)), slices.Repeat(list(99), lotsOf(s)))
	for lot, own := range s[bidder] {
		for _, other := range list(0, own-1, own+1, own/2, 99) {
			lie := slices.Clone(s[bidder])
			lie[lot] = min(99, max(0, other))
			all = append(all, lie)
		}
	}
	for seed, most := range list(1, 5, 99) {
		all = append(all, mixed(1, lotsOf(s), most, seed+10*bidder)[0])
	}
	return all
}

// P6.9, F3.
func TestNobodyGainsByLies(t *testing.T) {
	everySale(func(s [][]int) {
		honest := gains(t, s)
		for bidder := range s {
			for _, lie := range lies(s, bidder) {
				lot, pays, gains, e := sale.Told(s, bidder, lie)
				if e != api.OK || gains > honest[bidder] {
					t.Errorf("P6.9: Told of %v: %d with %v: %d %d %d %d, Gains: %v", s, bidder, lie, lot, pays, gains, e, honest)
				}
			}
		}
	})
}

// P6.9, and Told of the bidder's own worths.
func TestNobodyLoses(t *testing.T) {
	everySale(func(s [][]int) {
		best, pays, gains := best(t, s), pays(t, s), gains(t, s)
		for bidder, lot := range best {
			own := valueOf(s, bidder, lot)
			if gains[bidder] < 0 || pays[bidder] < 0 || pays[bidder] > own || lot < 0 && pays[bidder] != 0 || gains[bidder] != own-pays[bidder] {
				t.Errorf("P6.9: %v: Best: %v, Pays: %v, Gains: %v", s, best, pays, gains)
			}
			told(t, s, bidder, s[bidder], list(lot, pays[bidder], gains[bidder]), api.OK)
		}
	})
}

// P6.10, F1: fair prices and divisions with the greatest worth belong together.
func TestFairPricesAreOfTheBest(t *testing.T) {
	everySale(func(s [][]int) {
		most, ends := worth(t, s), lists(lowest(t, s), highest(t, s))
		n := 0
		for _, division := range divisions(len(s), lotsOf(s)) {
			wanted := api.OK
			if sumOf(s, division) == most {
				n++
			} else {
				wanted = api.ErrProof
			}
			for _, prices := range ends {
				if e := sale.Fair(s, prices, division); e != wanted {
					t.Errorf("P6.10: Fair of %v: %v with %v: %d, want %d", s, prices, division, e, wanted)
				}
			}
		}
		sameNumber(t, "F2: Ties", ties(t, s), api.OK, n, api.OK)
	})
}

// P6.10: prices that are fair with any division are fair with all that have the greatest worth, and with no
// others.
func TestAllFairPrices(t *testing.T) {
	for i, s := range smallSales() {
		if i%11 != 0 {
			continue
		}
		most, all := worth(t, s), divisions(len(s), lotsOf(s))
		for _, prices := range listsOf(lotsOf(s), 0, 4) {
			fair := 0
			for _, division := range all {
				if e := sale.Fair(s, prices, division); e == api.OK {
					fair++
					sameNumber(t, "P6.10: worth of a fair division", sumOf(s, division), e, most, api.OK)
				}
			}
			if fair != 0 && fair != ties(t, s) {
				t.Errorf("P6.10: %v: %v are fair with %d divisions, Ties: %d", s, prices, fair, ties(t, s))
			}
		}
	}
}

// bounds returns the lowest and the highest prices at which nobody prefers another lot, or none, to what
// this bidder has in a division: the lowest ones are raised, the highest ones lowered, until that holds.
func bounds(s [][]int, division []int) (low, high []int) {
	low, high = make([]int, lotsOf(s)), make([]int, lotsOf(s))
	for bidder, lot := range division {
		if lot >= 0 {
			high[lot] = s[bidder][lot]
		}
	}
	for range 2 * lotsOf(s) {
		for bidder, lot := range division {
			for other, value := range s[bidder] {
				if lot < 0 {
					low[other] = max(low[other], value)
				} else {
					low[other] = max(low[other], low[lot]+value-s[bidder][lot])
					high[lot] = min(high[lot], high[other]+s[bidder][lot]-value)
				}
			}
		}
	}
	return low, high
}

// P6.7, P6.10: where there are too many prices to look through, the bounds of the best division.
func TestLowestAndHighestAreBounds(t *testing.T) {
	everySale(func(s [][]int) {
		low, high := bounds(s, best(t, s))
		same(t, "P6.7: Lowest", lowest(t, s), api.OK, low, api.OK)
		same(t, "P6.7: Highest", highest(t, s), api.OK, high, api.OK)
	})
}

// P6.11.
func TestPaysIsLowest(t *testing.T) {
	everySale(func(s [][]int) {
		pays, lowest := pays(t, s), lowest(t, s)
		for bidder, lot := range best(t, s) {
			if lot >= 0 && pays[bidder] != lowest[lot] {
				t.Errorf("P6.11: %v: Pays: %v, Lowest: %v, Best: %v", s, pays, lowest, best(t, s))
			}
		}
	})
}

// somePrices returns prices for a sale: in small sales all small ones, and the ends of the fair ones with
// some that are near to them.
func somePrices(t *testing.T, s [][]int) [][]int {
	var all [][]int
	if lotsOf(s) <= 2 {
		all = listsOf(lotsOf(s), 0, 3)
	}
	for _, prices := range lists(lowest(t, s), highest(t, s)) {
		all = append(all, prices)
		for lot := range prices {
			for _, step := range list(-5, -1, 1, 5) {
				near := slices.Clone(prices)
				near[lot] = min(99, max(0, near[lot]+step))
				all = append(all, near)
			}
		}
	}
	return append(all, mixed(1, lotsOf(s), 99, len(s))[0], make([]int, lotsOf(s)))
}

// P6.12, F4: there is a division in which each bidder gets what this bidder wants, just if no bidders want
// too much; and those who do are a proof that can be checked.
func TestHall(t *testing.T) {
	for i, s := range append(smallSales(), largerSales()...) {
		if i%7 != 0 {
			continue
		}
		all := divisions(len(s), lotsOf(s))
		for _, prices := range somePrices(t, s) {
			wanted, _ := sale.Wanted(s, prices)
			content := slices.ContainsFunc(all, func(division []int) bool {
				return !slices.ContainsFunc(listsOf(1, 0, len(s)-1), func(one []int) bool {
					return !slices.Contains(wanted[one[0]], division[one[0]])
				})
			})
			over, e := sale.Over(s, prices)
			if content != (e == api.ErrClash) {
				t.Errorf("P6.12: Over of %v at %v: %v %d, all can get what they want: %t", s, prices, over, e, content)
			}
			if e != api.OK {
				continue
			}
			for _, division := range all {
				sameError(t, "P6.12: Fair", sale.Fair(s, prices, division), api.ErrProof)
			}
			checkOver(t, wanted, over)
		}
	}
}

// checkOver checks that bidders want too much.
func checkOver(t *testing.T, wanted [][]int, over []int) {
	t.Helper()
	lots := map[int]bool{}
	for i, bidder := range over {
		if i > 0 && over[i-1] >= bidder {
			t.Errorf("F4: Over: %v", over)
		}
		for _, lot := range wanted[bidder] {
			lots[lot] = true
		}
	}
	if lots[-1] || len(lots) >= len(over) {
		t.Errorf("F4: Over: %v, Wanted: %v", over, wanted)
	}
}

// orders returns all orders of so many things.
func orders(count int) [][]int {
	return slices.DeleteFunc(listsOf(count, 0, count-1), func(order []int) bool {
		sorted := slices.Clone(order)
		slices.Sort(sorted)
		return len(slices.Compact(sorted)) != count
	})
}

// inOrder returns numbers in another order.
func inOrder(numbers, order []int) []int {
	var changed []int
	for _, i := range order {
		changed = append(changed, numbers[i])
	}
	return changed
}

// P6.13, F5: lots and bidders in another order.
func TestOtherOrders(t *testing.T) {
	for seed, s := range append(smallSales(), largerSales()...) {
		lotOrders, bidderOrders := orders(lotsOf(s)), orders(len(s))
		for i := 0; i < 6; i++ {
			checkOrder(t, s, bidderOrders[(seed+i)%len(bidderOrders)], lotOrders[(7*seed+5*i)%len(lotOrders)])
		}
	}
}

// checkOrder compares a sale with the same one in another order of bidders and of lots.
func checkOrder(t *testing.T, s [][]int, bidders, lots []int) {
	t.Helper()
	var changed [][]int
	for _, bidder := range bidders {
		changed = append(changed, inOrder(s[bidder], lots))
	}
	sameNumber(t, "P6.13: greatest worth", worth(t, changed), api.OK, worth(t, s), api.OK)
	sameNumber(t, "P6.13: Ties", ties(t, changed), api.OK, ties(t, s), api.OK)
	same(t, "P6.13: Lowest", lowest(t, changed), api.OK, inOrder(lowest(t, s), lots), api.OK)
	same(t, "P6.13: Highest", highest(t, changed), api.OK, inOrder(highest(t, s), lots), api.OK)
	same(t, "P6.13: Gains", gains(t, changed), api.OK, inOrder(gains(t, s), bidders), api.OK)
	if ties(t, s) != 1 {
		return
	}
	same(t, "P6.13: Pays", pays(t, changed), api.OK, inOrder(pays(t, s), bidders), api.OK)
	var want []int
	for _, lot := range inOrder(best(t, s), bidders) {
		want = append(want, slices.Index(lots, lot)) // -1 is in no order of lots, and stays
	}
	same(t, "P6.13: Best", best(t, changed), api.OK, want, api.OK)
}

// P6.14, F7: one more bidder.
func TestOneMoreBidder(t *testing.T) {
	everySale(func(s [][]int) {
		if len(s) == sale.MaxBidders {
			return
		}
		for seed, most := range list(0, 1, 4, 99) {
			more := append(slices.Clone(s), mixed(1, lotsOf(s), most, seed)[0])
			if worth(t, more) < worth(t, s) {
				t.Errorf("P6.14: the greatest worth of %v is %d, of %v %d", s, worth(t, s), more, worth(t, more))
			}
			after := lowest(t, more)
			for lot, price := range lowest(t, s) {
				if after[lot] < price {
					t.Errorf("P6.14: Lowest of %v: %v, of %v: %v", s, lowest(t, s), more, after)
				}
			}
		}
	})
}

// P6.14: one more lot that is worth nothing to anybody.
func TestOneMoreLotWorthNothing(t *testing.T) {
	everySale(func(s [][]int) {
		if lotsOf(s) == sale.MaxLots {
			return
		}
		var more [][]int
		for _, worths := range s {
			more = append(more, append(slices.Clone(worths), 0))
		}
		same(t, "P6.14: Best", best(t, more), api.OK, best(t, s), api.OK)
		same(t, "P6.14: Pays", pays(t, more), api.OK, pays(t, s), api.OK)
		same(t, "P6.14: Gains", gains(t, more), api.OK, gains(t, s), api.OK)
		same(t, "P6.14: Lowest", lowest(t, more), api.OK, append(lowest(t, s), 0), api.OK)
		same(t, "P6.14: Highest", highest(t, more), api.OK, append(highest(t, s), 0), api.OK)
	})
}

package sale_test

// All results compared with what the chapter's definitions alone say.

import (
	"slices"
	"testing"

	"aigrette/api"
	"aigrette/sale"
)

// listsOf returns all lists of so many numbers from first to last, in ascending order.
func listsOf(length, first, last int) [][]int {
	if length == 0 {
		return lists(nil)
	}
	var all [][]int
	for number := first; number <= last; number++ {
		for _, rest := range listsOf(length-1, first, last) {
			all = append(all, append(list(number), rest...))
		}
	}
	return all
}

// rows returns the sale whose worths stand one after the other.
func rows(bidders, lots int, worths []int) [][]int {
	s := noLots(bidders)
	for i := range s {
		s[i] = worths[i*lots : (i+1)*lots]
	}
	return s
}

// mixed returns a sale of worths from 0 to most that look as if they were drawn.
func mixed(bidders, lots, most, seed int) [][]int {
	s := full(bidders, lots, 0)
	state := uint32(7919*seed + 31*most + 5*bidders + lots)
	for i := range s {
		for j := range s[i] {
			state = state*1664525 + 1013904223
			s[i][j] = int(state>>16) % (most + 1)
		}
	}
	return s
}

// smallSales returns all sales of small worths.
func smallSales() [][][]int {
	var all [][][]int
	for _, x := range []struct{ bidders, lots, most int }{{1, 0, 0}, {5, 0, 0}, {1, 1, 5}, {1, 3, 3}, {2, 1, 5}, {2, 2, 4}, {3, 1, 4}, {3, 2, 2}, {2, 3, 2}, {5, 1, 2}, {4, 2, 1}, {2, 4, 1}, {3, 3, 1}} {
		for _, worths := range listsOf(x.bidders*x.lots, 0, x.most) {
			all = append(all, rows(x.bidders, x.lots, worths))
		}
	}
	return all
}

// largerSales returns some sales of all sizes, with few worths and with many.
func largerSales() [][][]int {
	var all [][][]int
	for bidders := 1; bidders <= sale.MaxBidders; bidders++ {
		for lots := range sale.MaxLots + 1 {
			for i, most := range list(1, 2, 4, 9, 30, 99, 99) {
				all = append(all, mixed(bidders, lots, most, i))
			}
		}
	}
	return all
}

// divisions returns all divisions among so many bidders, in ascending order.
func divisions(bidders, lots int) [][]int {
	return slices.DeleteFunc(listsOf(bidders, -1, lots-1), func(division []int) bool {
		for i, lot := range division {
			if lot >= 0 && slices.Contains(division[:i], lot) {
				return true
			}
		}
		return false
	})
}

// valueOf returns what a lot, or none, is worth to a bidder.
func valueOf(s [][]int, bidder, lot int) int {
	if lot < 0 {
		return 0
	}
	return s[bidder][lot]
}

// sumOf returns the worth of a division.
func sumOf(s [][]int, division []int) int {
	sum := 0
	for bidder, lot := range division {
		sum += valueOf(s, bidder, lot)
	}
	return sum
}

// lotsOf returns the number of lots.
func lotsOf(s [][]int) int {
	if len(s) == 0 {
		return 0
	}
	return len(s[0])
}

// greatest returns the divisions with the greatest worth, in ascending order, and this worth.
func greatest(s [][]int) ([][]int, int) {
	var best [][]int
	most := -1
	for _, division := range divisions(len(s), lotsOf(s)) {
		sum := sumOf(s, division)
		if sum > most {
			best, most = nil, sum
		}
		if sum == most {
			best = append(best, division)
		}
	}
	return best, most
}

// without returns the sale without a bidder.
func without(s [][]int, bidder int) [][]int {
	return slices.Delete(slices.Clone(s), bidder, bidder+1)
}

// instead returns the sale with other worths of a bidder.
func instead(s [][]int, bidder int, worths []int) [][]int {
	changed := slices.Clone(s)
	changed[bidder] = worths
	return changed
}

// paid returns what each bidder pays.
func paid(s [][]int) []int {
	best, most := greatest(s)
	pays := make([]int, len(s))
	for bidder := range pays {
		_, alone := greatest(without(s, bidder))
		pays[bidder] = alone - (most - valueOf(s, bidder, best[0][bidder]))
	}
	return pays
}

// wants tells whether a bidder wants a lot, or none.
func wants(s [][]int, prices []int, bidder, lot int) bool {
	likes := func(lot int) int {
		if lot < 0 {
			return 0
		}
		return s[bidder][lot] - prices[lot]
	}
	for other := -1; other < len(prices); other++ {
		if likes(other) > likes(lot) {
			return false
		}
	}
	return true
}

// isFair tells whether prices are fair with a division.
func isFair(s [][]int, prices, division []int) bool {
	for bidder, lot := range division {
		if !wants(s, prices, bidder, lot) {
			return false
		}
	}
	for lot, price := range prices {
		if price != 0 && !slices.Contains(division, lot) {
			return false
		}
	}
	return true
}

// fairPrices returns all fair prices up to most.
func fairPrices(s [][]int, most int) [][]int {
	all := divisions(len(s), lotsOf(s))
	return slices.DeleteFunc(listsOf(lotsOf(s), 0, most), func(prices []int) bool {
		return !slices.ContainsFunc(all, func(division []int) bool { return isFair(s, prices, division) })
	})
}

// bothEnds returns the lowest and the highest price of each lot.
func bothEnds(prices [][]int) (lowest, highest []int) {
	lowest, highest = slices.Clone(prices[0]), slices.Clone(prices[0])
	for _, p := range prices {
		for lot, price := range p {
			lowest[lot] = min(lowest[lot], price)
			highest[lot] = max(highest[lot], price)
		}
	}
	return lowest, highest
}

// P6.2.
func TestWorthOfAllDivisions(t *testing.T) {
	for _, s := range append(largerSales(), exampleS(), exampleT()) {
		all := divisions(len(s), lotsOf(s))
		for i := 0; i < len(all); i += 1 + len(all)/100 {
			n, e := sale.Worth(s, all[i])
			sameNumber(t, "Worth", n, e, sumOf(s, all[i]), api.OK)
		}
	}
}

// P6.2: all lists of numbers of which some are no lots, with the errors.
func TestWorthOfAllLists(t *testing.T) {
	for _, s := range [][][]int{exampleS(), lists(list(1, 2), list(3, 4)), noLots(2), full(4, 1, 3)} {
		for length := range 5 {
			for _, numbers := range listsOf(length, -2, lotsOf(s)) {
				want, wanted := 0, errorOf(s, numbers)
				if wanted == api.OK {
					want = sumOf(s, numbers)
				}
				n, e := sale.Worth(s, numbers)
				sameNumber(t, "Worth", n, e, want, wanted)
			}
		}
	}
}

// errorOf returns the error of a division.
func errorOf(s [][]int, division []int) api.Errno {
	if len(division) != len(s) {
		return api.ErrShape
	}
	gone := map[int]bool{}
	for _, lot := range division {
		if lot < -1 || lot >= lotsOf(s) {
			return api.ErrNone
		}
		if gone[lot] {
			return api.ErrTwice
		}
		gone[lot] = lot >= 0
	}
	return api.OK
}

// P6.2, P6.3.
func TestBestOfAllSales(t *testing.T) {
	for _, s := range append(smallSales(), largerSales()...) {
		best, most := greatest(s)
		l, e := sale.Best(s)
		same(t, "Best", l, e, best[0], api.OK)
		n, e := sale.Worth(s, l)
		sameNumber(t, "Worth of Best", n, e, most, api.OK)
		n, e = sale.Ties(s)
		sameNumber(t, "Ties", n, e, len(best), api.OK)
		pays := paid(s)
		l, e = sale.Pays(s)
		same(t, "Pays", l, e, pays, api.OK)
		var gains []int
		for bidder, lot := range best[0] {
			gains = append(gains, valueOf(s, bidder, lot)-pays[bidder])
		}
		l, e = sale.Gains(s)
		same(t, "Gains", l, e, gains, api.OK)
	}
}

// P6.4: all lies of small worths in small sales, and those of other sales in larger ones.
func TestToldOfAllSales(t *testing.T) {
	check := func(s [][]int, bidder int, worths []int) {
		lie := instead(s, bidder, worths)
		best, _ := greatest(lie)
		lot, pays := best[0][bidder], paid(lie)[bidder]
		told(t, s, bidder, worths, list(lot, pays, valueOf(s, bidder, lot)-pays), api.OK)
	}
	for _, s := range smallSales() {
		if len(s)+lotsOf(s) <= 4 {
			for _, worths := range listsOf(lotsOf(s), 0, 2) {
				for bidder := range s {
					check(s, bidder, worths)
				}
			}
		}
	}
	for seed, s := range largerSales() {
		bidder := seed % len(s)
		check(s, bidder, mixed(1, lotsOf(s), 99, seed)[0])
	}
}

// P6.5, P6.6, P6.8: small sales at all small prices.
func TestPricesOfSmallSales(t *testing.T) {
	for i, s := range smallSales() {
		if i%5 == 0 {
			for _, prices := range listsOf(lotsOf(s), 0, 3) {
				checkPrices(t, s, prices)
			}
		}
	}
}

// P6.5, P6.6, P6.8: larger sales at fair prices, and some that are not.
func TestPricesOfLargerSales(t *testing.T) {
	for seed, s := range largerSales() {
		lowest, _ := sale.Lowest(s)
		highest, _ := sale.Highest(s)
		checkPrices(t, s, lowest)
		checkPrices(t, s, highest)
		checkPrices(t, s, make([]int, lotsOf(s)))
		for lot := range lotsOf(s) {
			lower, higher := slices.Clone(lowest), slices.Clone(highest)
			lower[lot], higher[lot] = max(0, lower[lot]-1), min(99, higher[lot]+1)
			checkPrices(t, s, lower)
			checkPrices(t, s, higher)
		}
		for _, most := range list(1, 9, 99) {
			checkPrices(t, s, mixed(1, lotsOf(s), most, seed)[0])
		}
	}
}

// checkPrices compares all functions that have prices.
func checkPrices(t *testing.T, s [][]int, prices []int) {
	t.Helper()
	wanted := make([][]int, len(s))
	for bidder := range s {
		for lot := -1; lot < len(prices); lot++ {
			if wants(s, prices, bidder, lot) {
				wanted[bidder] = append(wanted[bidder], lot)
			}
		}
	}
	w, e := sale.Wanted(s, prices)
	sameLists(t, "Wanted", w, e, wanted, api.OK)
	over, proof := fewestOver(wanted), api.OK
	if over == nil {
		proof = api.ErrClash
	}
	l, e := sale.Over(s, prices)
	same(t, "Over", l, e, over, proof)
	for _, division := range divisions(len(s), lotsOf(s)) {
		proof := api.OK
		if !isFair(s, prices, division) {
			proof = api.ErrProof
		}
		if e := sale.Fair(s, prices, division); e != proof {
			t.Errorf("Fair of %v: %v with %v: %d, want %d", s, prices, division, e, proof)
		}
	}
}

// fewestOver returns the first ones of the fewest bidders who want too much.
func fewestOver(wanted [][]int) []int {
	for size := 1; size <= len(wanted); size++ {
		for _, bidders := range listsOf(size, 0, len(wanted)-1) {
			lots := map[int]bool{}
			for i, bidder := range bidders {
				lots[-1] = lots[-1] || i > 0 && bidders[i-1] >= bidder
				for _, lot := range wanted[bidder] {
					lots[lot] = true
				}
			}
			// The entry of -1 also stands for lists that are not strictly ascending.
			if !lots[-1] && len(lots)-1 < size {
				return bidders
			}
		}
	}
	return nil
}

// P6.7: of all prices the fair ones.
func TestLowestAndHighestOfAllPrices(t *testing.T) {
	check := func(s [][]int, most int) {
		lowest, highest := bothEnds(fairPrices(s, most))
		l, e := sale.Lowest(s)
		same(t, "Lowest", l, e, lowest, api.OK)
		l, e = sale.Highest(s)
		same(t, "Highest", l, e, highest, api.OK)
	}
	for _, s := range smallSales() {
		check(s, 6)
	}
	for _, s := range largerSales() {
		most := 0
		for _, worths := range s {
			most = max(most, slices.Max(append(worths, 0)))
		}
		if lotsOf(s) <= 1 {
			check(s, sale.MaxWorth)
		}
		if lotsOf(s) == 2 && len(s) <= 3 || lotsOf(s) == 3 && most <= 9 || most <= 2 {
			check(s, most)
		}
	}
}

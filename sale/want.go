package sale

import "slices"

// worthOf returns what a lot is worth, which is nothing for none.
func worthOf(worths []int, lot int) int {
	if lot == none {
		return 0
	}
	return worths[lot]
}

// wantedOf returns what each bidder wants.
func wantedOf(sale [][]int, prices []int) [][]int {
	wanted := make([][]int, len(sale))
	for bidder, worths := range sale {
		wanted[bidder] = wantedBy(worths, prices)
	}
	return wanted
}

// wantedBy returns what a bidder with these worths wants.
func wantedBy(worths, prices []int) []int {
	wanted, most := []int{none}, 0
	for lot, worth := range worths {
		likes := worth - prices[lot]
		if likes > most {
			wanted, most = nil, likes
		}
		if likes == most {
			wanted = append(wanted, lot)
		}
	}
	return wanted
}

// firstOver returns the fewest bidders who want too much, the first ones of them, or nobody.
func firstOver(wanted [][]int) []int {
	var first []int
	for some := range firstOnes(len(wanted)) + 1 {
		bidders := some.list()
		if wantTooMuch(wanted, bidders) && (len(first) == 0 || isBefore(bidders, first)) {
			first = bidders
		}
	}
	return first
}

// wantTooMuch tells whether bidders, all of whom want lots, want fewer lots than they are.
func wantTooMuch(wanted [][]int, bidders []int) bool {
	var lots set
	for _, bidder := range bidders {
		if slices.Contains(wanted[bidder], none) {
			return false
		}
		for _, lot := range wanted[bidder] {
			lots = lots.with(lot)
		}
	}
	return lots.size() < len(bidders)
}

// isBefore tells whether bidders are fewer than others, or as many and the smaller list.
func isBefore(bidders, others []int) bool {
	if len(bidders) != len(others) {
		return len(bidders) < len(others)
	}
	return slices.Compare(bidders, others) < 0
}

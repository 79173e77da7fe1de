package sale

// seller knows the best division of a sale, and keeps what was found for the parts of it.
type seller struct {
	sale  [][]int
	known map[part]found
	best  []int
}

// sellerOf returns the seller of a sale without errors.
func sellerOf(sale [][]int) seller {
	s := seller{sale: sale, known: map[part]found{}}
	s.best = s.divide()
	return s
}

// all returns the whole sale as a part.
func (s seller) all() part {
	return part{bidders: firstOnes(len(s.sale)), lots: firstOnes(len(s.sale[0]))}
}

// find returns what is found for a part. Different bidders before may leave the same lots: what is left
// is looked through only once.
func (s seller) find(p part) found {
	if p.bidders == 0 {
		return found{ties: 1}
	}
	if f, ok := s.known[p]; ok {
		return f
	}
	best := s.after(p, none)
	for _, lot := range p.lots.list() {
		best = best.or(s.after(p, lot))
	}
	s.known[p] = best
	return best
}

// after returns what is found for a part if its first bidder gets a lot, or none.
func (s seller) after(p part, lot int) found {
	bidder := p.bidders.smallest()
	rest := s.find(p.without(bidder, lot))
	return found{worth: rest.worth + worthOf(s.sale[bidder], lot), ties: rest.ties, lot: lot}
}

// divide returns the best division.
func (s seller) divide() []int {
	left := s.all()
	best := make([]int, len(s.sale))
	for bidder := range best {
		best[bidder] = s.find(left).lot
		left = left.without(bidder, best[bidder])
	}
	return best
}

// ofEach returns the answers for all bidders.
func (s seller) ofEach(ask func(s seller, bidder int) int) []int {
	answers := make([]int, len(s.sale))
	for bidder := range answers {
		answers[bidder] = ask(s, bidder)
	}
	return answers
}

// gets returns what the lot of a bidder is worth to this bidder.
func (s seller) gets(bidder int) int {
	return worthOf(s.sale[bidder], s.best[bidder])
}

// pays returns what a bidder pays: what the others lose by this bidder.
func (s seller) pays(bidder int) int {
	all := s.all()
	alone := s.find(all.without(bidder, none)).worth
	return alone - (s.find(all).worth - s.gets(bidder))
}

// gains returns what a bidder gains.
func (s seller) gains(bidder int) int {
	return s.gets(bidder) - s.pays(bidder)
}

// lowest returns the lowest fair prices. No fair prices let a bidder gain more than what this bidder gains
// by paying for what the others lose, and the lowest ones let all bidders gain as much at once. So a lot
// costs as much as it takes that nobody would gain more by it, and nothing if nobody would anyway.
func (s seller) lowest() []int {
	prices := make([]int, len(s.sale[0]))
	for bidder, gains := range s.ofEach(seller.gains) {
		for lot, worth := range s.sale[bidder] {
			prices[lot] = max(prices[lot], worth-gains)
		}
	}
	return prices
}

// highest returns the highest fair prices: what would be lost if the lot were not there. At a higher price
// all would be better off without it.
func (s seller) highest() []int {
	prices := make([]int, len(s.sale[0]))
	all := s.all()
	for lot := range prices {
		fewer := part{bidders: all.bidders, lots: all.lots.without(lot)}
		prices[lot] = s.find(all).worth - s.find(fewer).worth
	}
	return prices
}

package sale

// part is the part of a sale with these bidders and lots alone.
type part struct {
	bidders, lots set
}

// without returns the part without a bidder and the lot that this bidder gets, or none.
func (p part) without(bidder, lot int) part {
	rest := part{bidders: p.bidders.without(bidder), lots: p.lots}
	if lot != none {
		rest.lots = p.lots.without(lot)
	}
	return rest
}

// found is what is found for a part: the greatest worth of its divisions, how many have it, and what the
// first bidder gets in the first one of these.
type found struct {
	worth, ties, lot int
}

// or returns what is found in the divisions of both, if those of other all come later.
func (f found) or(other found) found {
	switch {
	case other.worth > f.worth:
		return other
	case other.worth == f.worth:
		f.ties += other.ties
	}
	return f
}

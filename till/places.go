package till

// places is the places of coins in the till, or of customers who wait for one, in the order in which
// they came.
type places []int

// with returns the places with one more, as a copy, so that the places themselves stay as they are.
func (p places) with(place int) places {
	more := make(places, len(p)+1)
	copy(more, p)
	more[len(p)] = place
	return more
}

// last returns the place that came last.
func (p places) last() int {
	return p[len(p)-1]
}

// withoutLast returns the other places. They have no room behind them: whatever is put there later gets
// memory of its own, and stands in nobody else's.
func (p places) withoutLast() places {
	last := len(p) - 1
	return p[:last:last]
}

// withoutFirst returns the places without the one that came first.
func (p places) withoutFirst() places {
	return p[1:len(p):len(p)]
}

// serve returns the customers in the order in which they are served, and those who wait for ever.
// Nobody waits while there is a coin in the till.
func serve(order string, begin int) (served, waiting places) {
	coins := begin
	for place := range len(order) {
		switch {
		case order[place] == note && coins == 0:
			waiting = waiting.with(place)
		case order[place] == note:
			coins--
			served = served.with(place)
		case len(waiting) > 0:
			served = served.with(place).with(waiting[0])
			waiting = waiting.withoutFirst()
		default:
			coins++
			served = served.with(place)
		}
	}
	return served, waiting
}

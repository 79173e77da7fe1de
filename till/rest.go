package till

import "aigrette/api"

// rest is how many customers of both kinds still come, and how many coins are in the till.
type rest struct {
	coins, notes, till int
}

// restOf returns what comes after the beginning, or its error.
func restOf(coins, notes, begin int) (rest, api.Errno) {
	// The numbers are not added before both are known to be small: their sum might leave an int.
	if coins < 0 || coins > MaxCustomers || notes < 0 || notes > MaxCustomers-coins {
		return rest{}, api.ErrRange
	}
	if begin < 0 || begin > MaxCoins {
		return rest{}, api.ErrRange
	}
	return rest{coins: coins, notes: notes, till: begin}, api.OK
}

// restOfOrder returns what comes after the beginning of an order.
func restOfOrder(order string, begin int) rest {
	r := rest{till: begin}
	for place := range len(order) {
		if order[place] == coin {
			r.coins++
		} else {
			r.notes++
		}
	}
	return r
}

// afterCoin returns the rest after one more customer with a coin.
func (r rest) afterCoin() rest {
	return rest{coins: r.coins - 1, notes: r.notes, till: r.till + 1}
}

// afterNote returns the rest after one more customer with a note.
func (r rest) afterNote() rest {
	return rest{coins: r.coins, notes: r.notes - 1, till: r.till - 1}
}

// ways returns in how many orders the customers can come so that change lacks for nobody. Of each order
// in which it lacks, Exchange makes one with till + 1 fewer notes, and it makes all of those (P5.10):
// so their number is taken off that of all orders (P5.9).
func (r rest) ways() int {
	if r.coins < 0 || r.notes > r.coins+r.till {
		return 0
	}
	customers := r.coins + r.notes
	return choose(customers, r.notes) - choose(customers, r.notes-r.till-1)
}

// order returns the order with a number that is less than the number of ways.
func (r rest) order(number int) string {
	var order []byte
	for r.coins+r.notes > 0 {
		smaller := r.afterCoin().ways()
		if number < smaller {
			order = append(order, coin)
			r = r.afterCoin()
			continue
		}
		order = append(order, note)
		number -= smaller
		r = r.afterNote()
	}
	return string(order)
}

// number returns the number of one of the ways: where it has a customer with a note, all those with
// a coin instead are smaller.
func (r rest) number(order string) int {
	smaller := 0
	for place := range len(order) {
		if order[place] == coin {
			r = r.afterCoin()
			continue
		}
		smaller += r.afterCoin().ways()
		r = r.afterNote()
	}
	return smaller
}

// choose returns the number of ways to choose some of all, which is 0 for a negative number of them.
func choose(all, some int) int {
	if some < 0 {
		return 0
	}
	ways := 1
	for i := range some {
		ways = ways * (all - i) / (i + 1)
	}
	return ways
}

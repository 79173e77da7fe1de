package till_test

// All results compared with what the chapter's definitions alone say.

import (
	"strings"
	"testing"

	"aigrette/api"
	"aigrette/till"
)

// ordersOf returns all orders of so many customers, in ascending order.
func ordersOf(customers int) []string {
	if customers == 0 {
		return []string{""}
	}
	var orders []string
	for _, first := range []string{"c", "n"} {
		for _, rest := range ordersOf(customers - 1) {
			orders = append(orders, first+rest)
		}
	}
	return orders
}

// orders returns all orders of up to so many customers.
func orders(customers int) []string {
	var all []string
	for n := range customers + 1 {
		all = append(all, ordersOf(n)...)
	}
	return all
}

// inTill returns the coins in the till after some customers for none of whom change lacks.
func inTill(order string, begin int) int {
	return begin + strings.Count(order, "c") - strings.Count(order, "n")
}

// isGood tells whether each customer with a note finds a coin.
func isGood(order string, begin int) bool {
	for place, letter := range order {
		if letter == 'n' && inTill(order[:place], begin) < 1 {
			return false
		}
	}
	return true
}

// everyOrder calls do with all orders of up to nine customers and all numbers of coins that make a
// difference, and with 20.
func everyOrder(do func(order string, begin int)) {
	for _, order := range orders(9) {
		for begin := range len(order) + 2 {
			do(order, begin)
		}
		do(order, till.MaxCoins)
	}
}

// P5.1: all strings of up to five letters, some of which are none of an order.
func TestCheckOfAllStrings(t *testing.T) {
	all := []string{""}
	for i := 0; i < len(all); i++ {
		wanted := api.OK
		if strings.Trim(all[i], "cn") != "" {
			wanted = api.ErrForm
		}
		if e := till.Check(all[i]); e != wanted {
			t.Errorf("Check of %q: %d, want %d", all[i], e, wanted)
		}
		if len(all[i]) < 5 {
			for _, letter := range []string{"b", "c", "d", "m", "n", "o", "C", "\xff"} {
				all = append(all, all[i]+letter)
			}
		}
	}
}

// P5.1, P5.2.
func TestCoinsOfAllOrders(t *testing.T) {
	everyOrder(func(order string, begin int) {
		var coins []int
		lacks, proof, lost := 0, api.OK, api.ErrLost
		for place := range order {
			coins = append(coins, inTill(order[:place+1], begin))
			if proof == api.OK && !isGood(order[:place+1], begin) {
				lacks, proof, lost = place, api.ErrProof, api.OK
			}
		}
		if proof != api.OK {
			coins = nil
		}
		l, e := till.Coins(order, begin)
		same(t, "Coins of "+order, l, e, coins, proof)
		n, e := till.Lacks(order, begin)
		sameNumber(t, "Lacks of "+order, n, e, lacks, lost)
		wanted := 0
		for !isGood(order, wanted) {
			wanted++
		}
		n, e = till.Needs(order)
		sameNumber(t, "Needs of "+order, n, e, wanted, api.OK)
	})
}

// P5.3, P5.4: all good orders of all numbers of customers, sorted by the numbers of both kinds.
func TestGoodOrders(t *testing.T) {
	for customers := range till.MaxCustomers + 1 {
		all := ordersOf(customers)
		for _, begin := range list(0, 1, 2, 3, 7, 15, 16, 20) {
			good := map[int][]string{}
			for _, order := range all {
				if isGood(order, begin) {
					notes := strings.Count(order, "n")
					good[notes] = append(good[notes], order)
				}
			}
			for notes := range customers + 1 {
				checkGood(t, customers-notes, notes, begin, good[notes])
			}
		}
	}
}

// checkGood compares with all good orders, in ascending order.
func checkGood(t *testing.T, coins, notes, begin int, good []string) {
	t.Helper()
	n, e := till.Count(coins, notes, begin)
	sameNumber(t, "Count", n, e, len(good), api.OK)
	first, lost := "", api.ErrLost
	if len(good) > 0 {
		first, lost = good[0], api.OK
	}
	s, e := till.First(coins, notes, begin)
	sameOrder(t, "First", s, e, first, lost)
	for number, order := range good {
		s, e := till.At(coins, notes, begin, number)
		sameOrder(t, "At", s, e, order, api.OK)
		n, e := till.Number(order, begin)
		sameNumber(t, "Number of "+order, n, e, number, api.OK)
	}
	s, e = till.At(coins, notes, begin, len(good))
	sameOrder(t, "At", s, e, "", api.ErrRange)
}

// P5.4: orders that are not good.
func TestNumberOfAllOrders(t *testing.T) {
	everyOrder(func(order string, begin int) {
		wanted := api.OK
		if !isGood(order, begin) {
			wanted = api.ErrProof
		}
		if _, e := till.Number(order, begin); e != wanted {
			t.Errorf("Number of %s: %d: %d, want %d", order, begin, e, wanted)
		}
	})
}

// keeps tells whether an order keeps so many coins.
func keeps(order string, keep int) bool {
	for place := range order {
		if inTill(order[:place+1], 0) < keep {
			return false
		}
	}
	return isGood(order, 0)
}

// P5.5.
func TestTurnsOfAllOrders(t *testing.T) {
	everyOrder(func(order string, keep int) {
		var want []int
		for turn := range order {
			turned := ""
			for place := range order {
				turned += string(order[(turn+place)%len(order)])
			}
			if keeps(turned, keep) {
				want = append(want, turn)
			}
		}
		l, e := till.Turns(order, keep)
		same(t, "Turns of "+order, l, e, want, api.OK)
	})
}

// P5.6: of the coins that nobody got yet, the last one.
func TestPairsOfAllOrders(t *testing.T) {
	for _, order := range orders(12) {
		var want [][2]int
		wanted := api.OK
		if !isGood(order, 0) {
			wanted = api.ErrProof
		}
		gone := map[int]bool{}
		for place, letter := range order {
			if letter != 'n' || wanted != api.OK {
				continue
			}
			from := place - 1
			for order[from] != 'c' || gone[from] {
				from--
			}
			gone[from] = true
			want = append(want, [2]int{from, place})
		}
		pairs, e := till.Pairs(order)
		samePairs(t, "Pairs of "+order, pairs, e, want, wanted)
	}
}

// P5.7.
func TestExchangeOfAllOrders(t *testing.T) {
	others := strings.NewReplacer("c", "n", "n", "c")
	everyOrder(func(order string, begin int) {
		want, wanted := "", api.ErrLost
		for end := range order {
			if !isGood(order[:end+1], begin) {
				want, wanted = others.Replace(order[:end+1])+order[end+1:], api.OK
				break
			}
		}
		s, e := till.Exchange(order, begin)
		sameOrder(t, "Exchange of "+order, s, e, want, wanted)
	})
}

// P5.8: the coins at the beginning go to the first customers with a note, and then each coin to the next
// one, who is served at once, or as soon as the coin comes if it comes later.
func TestServedOfAllOrders(t *testing.T) {
	everyOrder(func(order string, begin int) {
		var coins, notes []int
		for place, letter := range order {
			if letter == 'c' {
				coins = append(coins, place)
			} else {
				notes = append(notes, place)
			}
		}
		var want []int
		wanted := api.OK
		if len(notes) > len(coins)+begin {
			wanted = api.ErrLost
		}
		for place, letter := range order {
			if wanted == api.OK && letter == 'c' {
				want = append(want, place)
			}
			for i, customer := range notes {
				if wanted == api.OK && servedAt(customer, i-begin, coins) == place {
					want = append(want, customer)
				}
			}
		}
		l, e := till.Served(order, begin)
		same(t, "Served of "+order, l, e, want, wanted)
	})
}

// servedAt returns with which customer a customer with a note is served who gets the coin with a number,
// which is negative if it was in the till at the beginning.
func servedAt(customer, number int, coins []int) int {
	if number < 0 {
		return customer
	}
	return max(customer, coins[number])
}

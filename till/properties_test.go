package till_test

// P5.9 to P5.15, and with them F1 to F7 for this layer.

import (
	"slices"
	"strings"
	"testing"

	"aigrette/api"
	"aigrette/till"
)

func count(t *testing.T, coins, notes, begin int) int {
	t.Helper()
	n, e := till.Count(coins, notes, begin)
	if e != api.OK {
		t.Fatalf("Count of %d, %d, %d: %d", coins, notes, begin, e)
	}
	return n
}

func needs(t *testing.T, order string) int {
	t.Helper()
	n, e := till.Needs(order)
	if e != api.OK {
		t.Fatalf("Needs of %s: %d", order, e)
	}
	return n
}

// kinds returns how many customers pay with coins and with notes.
func kinds(order string) (coins, notes int) {
	return strings.Count(order, "c"), strings.Count(order, "n")
}

// everyCount calls do with all numbers of customers and of coins at the beginning.
func everyCount(do func(coins, notes, begin int)) {
	for coins := range till.MaxCustomers + 1 {
		for notes := range till.MaxCustomers + 1 - coins {
			for begin := range till.MaxCoins + 1 {
				do(coins, notes, begin)
			}
		}
	}
}

// waysToChoose returns the number of ways to choose some of all, each without the first one or with it.
func waysToChoose(all, some int) int {
	ways := make([]int, all+2)
	ways[0] = 1
	for range all {
		for i := len(ways) - 1; i > 0; i-- {
			ways[i] += ways[i-1]
		}
	}
	if some < 0 || some > all {
		return 0
	}
	return ways[some]
}

// P5.9.
func TestBallots(t *testing.T) {
	everyCount(func(coins, notes, begin int) {
		all, want := waysToChoose(coins+notes, notes), 0
		if notes <= coins+begin {
			want = all - waysToChoose(coins+notes, notes-begin-1)
		}
		if n := count(t, coins, notes, begin); n != want {
			t.Errorf("P5.9: Count of %d, %d, %d: %d, want %d", coins, notes, begin, n, want)
		}
	})
	for coins := range till.MaxCustomers/2 + 1 {
		if n := count(t, coins, coins, 0); n != waysToChoose(2*coins, coins)/(coins+1) {
			t.Errorf("P5.9: Count of %d, %d, 0: %d", coins, coins, n)
		}
	}
}

// P5.9, F7: with more coins at the beginning, or one more customer with a coin, no fewer orders are good.
func TestMoreCoinsMoreOrders(t *testing.T) {
	everyCount(func(coins, notes, begin int) {
		n := count(t, coins, notes, begin)
		if begin < till.MaxCoins && count(t, coins, notes, begin+1) < n {
			t.Errorf("F7: Count of %d, %d, %d: %d, more than with one coin more", coins, notes, begin, n)
		}
		if coins+notes < till.MaxCustomers && count(t, coins+1, notes, begin) < n {
			t.Errorf("F7: Count of %d, %d, %d: %d, more than with one more customer", coins, notes, begin, n)
		}
	})
}

// reaches tells whether coins are more than begin more than notes after some customer.
func reaches(order string, begin int) bool {
	for end := range order {
		coins, notes := kinds(order[:end+1])
		if coins-notes > begin {
			return true
		}
	}
	return false
}

// P5.10.
func TestExchangeIsOneToOne(t *testing.T) {
	for customers := range 11 {
		all := ordersOf(customers)
		for begin := range customers + 1 {
			madeOf := map[string]int{}
			for _, order := range all {
				made, e := till.Exchange(order, begin)
				if e == api.ErrLost {
					continue
				}
				madeOf[made]++
				coins, notes := kinds(order)
				more, fewer := kinds(made)
				if e != api.OK || more != coins+begin+1 || fewer != notes-begin-1 {
					t.Errorf("P5.10: Exchange of %s: %d: %s %d", order, begin, made, e)
				}
			}
			for _, order := range all {
				want := 0
				if reaches(order, begin) {
					want = 1
				}
				if madeOf[order] != want {
					t.Errorf("P5.10: %s is made of %d orders with %d", order, madeOf[order], begin)
				}
			}
		}
	}
}

// P5.11.
func TestCycles(t *testing.T) {
	for _, order := range append(orders(11), strings.Repeat("ccn", 5), strings.Repeat("cnnc", 4), strings.Repeat("ncccnccc", 2)) {
		coins, notes := kinds(order)
		turns, e := till.Turns(order, 1)
		if e != api.OK || len(turns) != max(0, coins-notes) {
			t.Errorf("P5.11: Turns of %s: 1: %v %d", order, turns, e)
		}
	}
}

// F5: an order that goes round may begin anywhere; the turns of a turned order are less by its turn.
func TestTurnsOfTurned(t *testing.T) {
	everyOrder(func(order string, keep int) {
		turns, e := till.Turns(order, keep)
		for turn := range order {
			var want []int
			for _, k := range turns {
				want = append(want, (k-turn+len(order))%len(order))
			}
			slices.Sort(want)
			turned, f := till.Turns(order[turn:]+order[:turn], keep)
			same(t, "F5: Turns of "+order+" turned", turned, f, want, e)
		}
	})
}

// P5.12.
func TestNeedsIsEnough(t *testing.T) {
	everyOrder(func(order string, begin int) {
		coins, e := till.Coins(order, begin)
		if (e == api.OK) != (begin >= needs(t, order)) {
			t.Errorf("P5.12: Coins of %s: %d: %d, Needs: %d", order, begin, e, needs(t, order))
		}
		if e != api.OK || begin == till.MaxCoins {
			return
		}
		for i := range coins {
			coins[i]++
		}
		more, e := till.Coins(order, begin+1)
		same(t, "P5.12: Coins of "+order+" with one more", more, e, coins, api.OK)
	})
}

// P5.13.
func TestPairsDoNotCross(t *testing.T) {
	for _, order := range orders(12) {
		pairs, e := till.Pairs(order)
		if e != api.OK {
			continue
		}
		coins, notes := kinds(order)
		var got []int
		for i, one := range pairs {
			got = append(got, one[0], one[1])
			if one[0] >= one[1] || order[one[0]] != 'c' || order[one[1]] != 'n' {
				t.Errorf("P5.13: Pairs of %s: %v", order, pairs)
			}
			for _, other := range pairs[i+1:] {
				if one[0] < other[0] && other[0] < one[1] && one[1] < other[1] || other[0] < one[0] && one[0] < other[1] && other[1] < one[1] {
					t.Errorf("P5.13: Pairs of %s: %v crosses %v", order, one, other)
				}
			}
		}
		slices.Sort(got)
		if len(pairs) != notes || coins-len(pairs) != coins-notes || len(slices.Compact(got)) != 2*notes {
			t.Errorf("P5.13: Pairs of %s: %v", order, pairs)
		}
	}
}

// P5.14.
func TestAtAndNumber(t *testing.T) {
	everyCount(func(coins, notes, begin int) {
		ways := count(t, coins, notes, begin)
		first, e := till.First(coins, notes, begin)
		if ways == 0 {
			sameOrder(t, "P5.14: First", first, e, "", api.ErrLost)
			return
		}
		zeroth, f := till.At(coins, notes, begin, 0)
		sameOrder(t, "P5.14: First", first, e, zeroth, f)
		before := ""
		for number := 0; number < ways; number += 1 + ways/50 {
			order, e := till.At(coins, notes, begin, number)
			n, f := till.Number(order, begin)
			sameNumber(t, "P5.14: Number of At", n, f, number, api.OK)
			c, m := kinds(order)
			if e != api.OK || c != coins || m != notes || number > 0 && order <= before {
				t.Errorf("P5.14: At of %d, %d, %d: %d: %q %d, after %q", coins, notes, begin, number, order, e, before)
			}
			before = order
		}
	})
}

// P5.15.
func TestServedIsGood(t *testing.T) {
	everyOrder(func(order string, begin int) {
		coins, notes := kinds(order)
		served, e := till.Served(order, begin)
		if (e == api.ErrLost) != (notes > coins+begin) {
			t.Errorf("P5.15: Served of %s: %d: %v %d", order, begin, served, e)
		}
		if e != api.OK {
			return
		}
		var made []byte
		places := map[byte][]int{}
		for _, place := range served {
			made = append(made, order[place])
			places[order[place]] = append(places[order[place]], place)
		}
		if _, e := till.Coins(string(made), begin); e != api.OK {
			t.Errorf("P5.15: Served of %s: %d: %v makes %s: %d", order, begin, served, made, e)
		}
		if !slices.IsSorted(places['c']) || !slices.IsSorted(places['n']) || len(places['c']) != coins || len(places['n']) != notes {
			t.Errorf("P5.15: Served of %s: %d: %v", order, begin, served)
		}
		if _, e := till.Coins(order, begin); e == api.OK && !slices.IsSorted(served) {
			t.Errorf("P5.15: Served of %s, which is good for %d: %v", order, begin, served)
		}
	})
}

// F4: an order is refused as not good just if there is a first customer for whom change lacks, who finds
// an empty till after customers for none of whom it lacks.
func TestLackIsProof(t *testing.T) {
	everyOrder(func(order string, begin int) {
		_, refused := till.Coins(order, begin)
		place, e := till.Lacks(order, begin)
		if (refused == api.ErrProof) != (e == api.OK) {
			t.Errorf("F4: Coins of %s: %d: %d, Lacks: %d", order, begin, refused, e)
		}
		if e != api.OK {
			return
		}
		coins, e := till.Coins(order[:place], begin)
		left := append(list(begin), coins...)
		if e != api.OK || left[len(left)-1] != 0 || order[place] != 'n' {
			t.Errorf("F4: Lacks of %s: %d: %d, before: %v %d", order, begin, place, left, e)
		}
	})
}

// P5.15: those who came in the order in which they were served are served in it again.
func TestServedAgain(t *testing.T) {
	everyOrder(func(order string, begin int) {
		served, e := till.Served(order, begin)
		if e != api.OK {
			return
		}
		var made []byte
		var want []int
		for i, place := range served {
			made = append(made, order[place])
			want = append(want, i)
		}
		again, e := till.Served(string(made), begin)
		same(t, "P5.15: Served of "+string(made), again, e, want, api.OK)
	})
}

package till

import "aigrette/api"

// The letters of an order.
const (
	coin = 'c'
	note = 'n'
)

// checkWith returns the error of an order and a number of coins.
func checkWith(order string, coins int) api.Errno {
	if e := Check(order); e != api.OK {
		return e
	}
	if coins < 0 || coins > MaxCoins {
		return api.ErrRange
	}
	return api.OK
}

// coinsAfter returns how many coins are in the till after each customer. It goes on where change lacks,
// as if the coins were lent: the first negative number is that of the first customer for whom it lacks.
func coinsAfter(order string, begin int) []int {
	after := make([]int, len(order))
	coins := begin
	for place := range after {
		if order[place] == coin {
			coins++
		} else {
			coins--
		}
		after[place] = coins
	}
	return after
}

// isLack tells of a number of coins after a customer whether change lacked.
func isLack(coins int) bool {
	return coins < 0
}

// otherKind returns with what customers of the other kind pay.
func otherKind(customer byte) byte {
	if customer == coin {
		return note
	}
	return coin
}

package sale

import (
	"slices"

	"aigrette/api"
)

// none stands for no lot.
const none = -1

// checkNumbers returns the error of worths, or of prices, for so many lots.
func checkNumbers(numbers []int, lots int) api.Errno {
	if len(numbers) != lots {
		return api.ErrShape
	}
	for _, number := range numbers {
		if number < 0 || number > MaxWorth {
			return api.ErrRange
		}
	}
	return api.OK
}

// checkPrices returns the error of a sale, or of prices for its lots.
func checkPrices(sale [][]int, prices []int) api.Errno {
	if e := Check(sale); e != api.OK {
		return e
	}
	return checkNumbers(prices, len(sale[0]))
}

// checkDivision returns the error of a division of a sale that has none.
func checkDivision(sale [][]int, division []int) api.Errno {
	if len(division) != len(sale) {
		return api.ErrShape
	}
	for bidder, lot := range division {
		if lot < none || lot >= len(sale[bidder]) {
			return api.ErrNone
		}
		if lot != none && slices.Contains(division[:bidder], lot) {
			return api.ErrTwice
		}
	}
	return api.OK
}

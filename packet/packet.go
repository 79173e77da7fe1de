// Package packet is layer 1: orders filled from packets of a few sizes. See shared/doc/01-packet.md.
package packet

import (
	"slices"

	"aigrette/api"
)

// The limits.
const (
	MaxKinds = 5
	MaxSize  = 30
	MaxStock = 40
	MaxTotal = 1000
)

// Check returns the error of sizes.
func Check(sizes []int) api.Errno {
	if len(sizes) == 0 {
		return api.ErrEmpty
	}
	if len(sizes) > MaxKinds {
		return api.ErrMany
	}
	for i, size := range sizes {
		if size < 1 || size > MaxSize {
			return api.ErrRange
		}
		if i > 0 && size <= sizes[i-1] {
			return api.ErrOrder
		}
	}
	return api.OK
}

// Can returns whether a number can be made.
func Can(sizes []int, n int) (bool, api.Errno) {
	if e := checkNumber(sizes, n); e != api.OK {
		return false, e
	}
	made := makeable(sizes)
	return made(n), api.OK
}

// Make returns the best filling of a number.
func Make(sizes []int, n int) ([]int, api.Errno) {
	if e := checkNumber(sizes, n); e != api.OK {
		return nil, e
	}
	return bestFilling(sizes, enough(sizes, n), n)
}

// Why returns a proof that a number cannot be made: its remainder by the first size,
// and the smallest number with this remainder that can be made, or -1.
func Why(sizes []int, n int) (remainder, least int, e api.Errno) {
	if e := checkNumber(sizes, n); e != api.OK {
		return 0, 0, e
	}
	made := makeable(sizes)
	if made(n) {
		return 0, 0, api.ErrClash
	}
	remainder = n % sizes[0]
	return remainder, firstMade(sizes, 0)[remainder], api.OK
}

// Remainders returns, for each remainder by the size with the index k, the smallest number
// with it that can be made, or -1.
func Remainders(sizes []int, k int) ([]int, api.Errno) {
	if e := Check(sizes); e != api.OK {
		return nil, e
	}
	if !isIndex(sizes, k) {
		return nil, api.ErrNone
	}
	return firstMade(sizes, k), api.OK
}

// Gaps returns all numbers that cannot be made.
func Gaps(sizes []int) ([]int, api.Errno) {
	if e := Check(sizes); e != api.OK {
		return nil, e
	}
	if commonDivisor(sizes) > 1 {
		return nil, api.ErrOver
	}
	return allGaps(sizes), api.OK
}

// Greatest returns the greatest number that cannot be made.
func Greatest(sizes []int) (int, api.Errno) {
	gaps, e := Gaps(sizes)
	if e != api.OK {
		return 0, e
	}
	if len(gaps) == 0 {
		return 0, api.ErrLost
	}
	return gaps[len(gaps)-1], api.OK
}

// Even returns whether, below the greatest gap, as many numbers can be made as there are gaps in all.
func Even(sizes []int) (bool, api.Errno) {
	gaps, e := Gaps(sizes)
	if e != api.OK {
		return false, e
	}
	if len(gaps) == 0 {
		return true, api.OK
	}
	// Up to the greatest gap a number is either a gap or one of those that are to be as many.
	upToGreatest := gaps[len(gaps)-1] + 1
	return upToGreatest == 2*len(gaps), api.OK
}

// Needed returns the indices of the sizes that cannot be made of the other ones.
func Needed(sizes []int) ([]int, api.Errno) {
	if e := Check(sizes); e != api.OK {
		return nil, e
	}
	var needed []int
	for i, size := range sizes {
		// No greater size fits into this one, so only the smaller ones matter.
		made := makeable(sizes[:i])
		if !made(size) {
			needed = append(needed, i)
		}
	}
	return needed, api.OK
}

// Verify checks that filling is a filling of n from the stock.
func Verify(sizes, stock []int, n int, filling []int) api.Errno {
	if e := checkOrder(sizes, stock, n); e != api.OK {
		return e
	}
	if len(filling) != len(sizes) {
		return api.ErrShape
	}
	for i, packets := range filling {
		if packets < 0 || packets > stock[i] {
			return api.ErrRange
		}
	}
	if feathers(sizes, filling) != n {
		return api.ErrSum
	}
	return api.OK
}

// Fill returns the best filling from a stock.
func Fill(sizes, stock []int, n int) ([]int, api.Errno) {
	if e := checkOrder(sizes, stock, n); e != api.OK {
		return nil, e
	}
	return bestFilling(sizes, stock, n)
}

// Ways returns the number of fillings from a stock.
func Ways(sizes, stock []int, n int) (int, api.Errno) {
	if e := checkOrder(sizes, stock, n); e != api.OK {
		return 0, e
	}
	return countFillings(sizes, stock, n)[n], api.OK
}

// Totals returns all numbers that can be filled from a stock.
func Totals(sizes, stock []int) ([]int, api.Errno) {
	if e := checkStock(sizes, stock); e != api.OK {
		return nil, e
	}
	filled := fillable(sizes, stock, MaxTotal)
	var totals []int
	for n := range MaxTotal + 1 {
		if filled(n) {
			totals = append(totals, n)
		}
	}
	return totals, api.OK
}

// Least returns the smallest number, from n on, that can be filled from a stock.
func Least(sizes, stock []int, n int) (int, api.Errno) {
	if e := checkOrder(sizes, stock, n); e != api.OK {
		return 0, e
	}
	filled := fillable(sizes, stock, MaxTotal)
	for total := n; total <= MaxTotal; total++ {
		if filled(total) {
			return total, api.OK
		}
	}
	return 0, api.ErrLost
}

// Span returns how many packets of the size with the index k fillings of n have, at least and at most.
func Span(sizes, stock []int, n, k int) (least, most int, e api.Errno) {
	if e := checkOrder(sizes, stock, n); e != api.OK {
		return 0, 0, e
	}
	if !isIndex(sizes, k) {
		return 0, 0, api.ErrNone
	}
	numbers := packetsUsed(sizes, stock, n, k)
	if len(numbers) == 0 {
		return 0, 0, api.ErrLost
	}
	return numbers[0], numbers[len(numbers)-1], api.OK
}

// packetsUsed returns each number of packets of the size with the index k that some filling of n has.
func packetsUsed(sizes, stock []int, n, k int) []int {
	others := slices.Clone(stock)
	others[k] = 0
	filled := fillable(sizes, others, n)
	var numbers []int
	for packets := range stock[k] + 1 {
		if filled(n - packets*sizes[k]) {
			numbers = append(numbers, packets)
		}
	}
	return numbers
}

func checkNumber(sizes []int, n int) api.Errno {
	if e := Check(sizes); e != api.OK {
		return e
	}
	return checkTotal(n)
}

func checkStock(sizes, stock []int) api.Errno {
	if e := Check(sizes); e != api.OK {
		return e
	}
	if len(stock) != len(sizes) {
		return api.ErrShape
	}
	for _, packets := range stock {
		if packets < 0 || packets > MaxStock {
			return api.ErrRange
		}
	}
	return api.OK
}

func checkOrder(sizes, stock []int, n int) api.Errno {
	if e := checkStock(sizes, stock); e != api.OK {
		return e
	}
	return checkTotal(n)
}

func checkTotal(n int) api.Errno {
	if n < 0 || n > MaxTotal {
		return api.ErrRange
	}
	return api.OK
}

func isIndex(sizes []int, k int) bool {
	return k >= 0 && k < len(sizes)
}

package sale

import "math/bits"

// set is a set of bidders, or of lots.
type set uint

// firstOnes returns the set of so many numbers from 0 on.
func firstOnes(count int) set {
	return 1<<count - 1
}

func (s set) with(number int) set {
	return s | 1<<number
}

func (s set) without(number int) set {
	return s &^ (1 << number)
}

func (s set) size() int {
	return bits.OnesCount(uint(s))
}

// smallest returns the smallest number of a set that is not empty.
func (s set) smallest() int {
	return bits.TrailingZeros(uint(s))
}

// list returns the numbers of the set in ascending order.
func (s set) list() []int {
	var numbers []int
	for left := s; left != 0; left = left.without(left.smallest()) {
		numbers = append(numbers, left.smallest())
	}
	return numbers
}

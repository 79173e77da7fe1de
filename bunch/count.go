package bunch

// bounds are what is counted: divisions of so many feathers, without a number greater than most.
type bounds struct {
	feathers, most int
}

// kept keeps what was counted within bounds during one call, so that it is counted once.
type kept[T any] map[bounds]T

// of returns what is counted within bounds.
func (k kept[T]) of(b bounds, count func() T) T {
	if counted, ok := k[b]; ok {
		return counted
	}
	counted := count()
	k[b] = counted
	return counted
}

// isCount tells whether there can be so many feathers, or so great a number.
func isCount(number int) bool {
	return number >= 0 && number <= MaxFeathers
}

// countAll counts the divisions within bounds by their first numbers.
func countAll(known kept[int], b bounds) int {
	if b.feathers == 0 {
		return 1
	}
	return known.of(b, func() int {
		count := 0
		for smaller := range min(b.feathers, b.most) {
			first := smaller + 1
			count += countAll(known, bounds{b.feathers - first, first})
		}
		return count
	})
}

// parity is how many divisions have an even number of numbers, and how many an odd one.
type parity struct {
	even, odd int
}

// countDifferent counts the different divisions within bounds by their first numbers.
func countDifferent(known kept[parity], b bounds) parity {
	if b.feathers == 0 {
		return parity{even: 1}
	}
	return known.of(b, func() parity {
		var count parity
		for smaller := range min(b.feathers, b.most) {
			// With the first number, an even number of numbers becomes an odd one, and an odd one even.
			rest := countDifferent(known, bounds{b.feathers - smaller - 1, smaller})
			count.even += rest.odd
			count.odd += rest.even
		}
		return count
	})
}

// numberOf returns the number of a division. For each of its numbers, those divisions come before it that
// are the same up to there and go on with a smaller number.
func numberOf(division []int) int {
	known, left, number := kept[int]{}, sum(division), 0
	for _, size := range division {
		number += countAll(known, bounds{left, size - 1})
		left -= size
	}
	return number
}

// withNumber returns the division with a number. No number in it becomes greater than the one before:
// with that one, the divisions of what is left are already more than the number that is left.
func withNumber(known kept[int], feathers, number int) []int {
	var division []int
	left := feathers
	for left > 0 {
		size := 1
		for countAll(known, bounds{left, size}) <= number {
			size++
		}
		number -= countAll(known, bounds{left, size - 1})
		left -= size
		division = append(division, size)
	}
	return division
}

package bunch

import "slices"

// sum returns how many feathers a division has.
func sum(division []int) int {
	feathers := 0
	for _, size := range division {
		feathers += size
	}
	return feathers
}

func isOdd(division []int) bool {
	return !slices.ContainsFunc(division, func(size int) bool { return size%2 == 0 })
}

func isDifferent(division []int) bool {
	for i := range division {
		if i > 0 && division[i] == division[i-1] {
			return false
		}
	}
	return true
}

// turn returns a division turned.
func turn(division []int) []int {
	if len(division) == 0 {
		return nil
	}
	turned := make([]int, division[0])
	for _, size := range division {
		for smaller := range size {
			turned[smaller]++
		}
	}
	return turned
}

// descending returns the numbers as a division.
func descending(numbers []int) []int {
	slices.Sort(numbers)
	slices.Reverse(numbers)
	return numbers
}

// double returns the double of an odd division.
func double(division []int) []int {
	var occurs [MaxFeathers + 1]int
	for _, size := range division {
		occurs[size]++
	}
	var doubled []int
	for size, often := range occurs {
		for power := 1; power <= often; power *= 2 {
			if often&power != 0 {
				doubled = append(doubled, size*power)
			}
		}
	}
	return descending(doubled)
}

// half returns the odd division whose double a different division is. Each number is in just one way an odd
// number times a power of 2, so there is no other one.
func half(division []int) []int {
	var halved []int
	for _, size := range division {
		odd := size
		for odd%2 == 0 {
			odd /= 2
		}
		halved = append(halved, slices.Repeat([]int{odd}, size/odd)...)
	}
	return descending(halved)
}

// steps returns how many numbers of a division, from the first one on, are each 1 smaller than the one before.
func steps(division []int) int {
	for i := range division {
		if i > 0 && division[i] != division[i-1]-1 {
			return i
		}
	}
	return len(division)
}

// hasPartner tells whether a different division has a partner.
func hasPartner(division []int) bool {
	if len(division) == 0 {
		return false
	}
	s, t := division[len(division)-1], steps(division)
	return len(division) != t || s != t && s != t+1
}

// partner returns the partner of a different division that has one.
func partner(division []int) []int {
	other := slices.Clone(division)
	last := len(other) - 1
	s, t := other[last], steps(other)
	if s > t {
		for i := range t {
			other[i]--
		}
		return append(other, t)
	}
	for i := range s {
		other[i]++
	}
	return other[:last]
}

// squareOf returns the square of a division.
func squareOf(division []int) int {
	for i, size := range division {
		if size <= i {
			return i
		}
	}
	return len(division)
}

// rightOf returns what is right of the square.
func rightOf(division []int, k int) []int {
	var right []int
	for _, size := range division[:k] {
		if size > k {
			right = append(right, size-k)
		}
	}
	return right
}

// join returns the division with a square and what is right of it and below it.
func join(k int, right, below []int) []int {
	division := slices.Repeat([]int{k}, k)
	for i, size := range right {
		division[i] += size
	}
	return append(division, below...)
}

// hooksOf returns the hooks of an even-handed division.
func hooksOf(division []int) []int {
	var hooks []int
	for i := range squareOf(division) {
		// The chapter counts from 1 on.
		hooks = append(hooks, 2*(division[i]-i)-1)
	}
	return hooks
}

// fold returns the even-handed division with hooks that are odd and different. They tell its first numbers, as
// many as its square says; below the square is the same as right of it, turned.
func fold(hooks []int) []int {
	var first []int
	for i, hook := range hooks {
		first = append(first, (hook+1)/2+i)
	}
	right := rightOf(first, len(first))
	return join(len(first), right, turn(right))
}

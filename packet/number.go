package packet

// makeable returns a function that tells of a number up to MaxTotal whether it can be made
// if there are enough packets. No sizes at all make only 0.
func makeable(sizes []int) func(n int) bool {
	var made [MaxTotal + 1]bool
	made[0] = true
	for _, size := range sizes {
		for n := size; n <= MaxTotal; n++ {
			made[n] = made[n] || made[n-size]
		}
	}
	return func(n int) bool { return n >= 0 && n <= MaxTotal && made[n] }
}

// firstMade returns, for each remainder by the size with the index k, the smallest number
// with this remainder that can be made, or -1.
//
// It looks no further than MaxTotal: among as many packets of other sizes as this size says,
// some have together a multiple of it, so that a smallest number has fewer of them; it is at
// most (MaxSize - 1) * MaxSize.
func firstMade(sizes []int, k int) []int {
	made := makeable(sizes)
	size := sizes[k]
	first := make([]int, size)
search:
	for remainder := range first {
		for n := remainder; n <= MaxTotal; n += size {
			if made(n) {
				first[remainder] = n
				continue search
			}
		}
		first[remainder] = -1
	}
	return first
}

// allGaps returns all gaps of sizes without a common divisor. Each of them is smaller than a
// number of firstMade, so none is above MaxTotal.
func allGaps(sizes []int) []int {
	made := makeable(sizes)
	var gaps []int
	for n := range MaxTotal + 1 {
		if !made(n) {
			gaps = append(gaps, n)
		}
	}
	return gaps
}

func commonDivisor(sizes []int) int {
	divisor := 0
	for _, size := range sizes {
		for size != 0 {
			divisor, size = size, divisor%size
		}
	}
	return divisor
}

// feathers returns how many feathers some packets have together.
func feathers(sizes, packets []int) int {
	sum := 0
	for i, size := range sizes {
		sum += size * packets[i]
	}
	return sum
}

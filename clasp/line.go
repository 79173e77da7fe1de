package clasp

import (
	"math/bits"

	"aigrette/api"
)

// last returns the last number of the positions of so many rings.
func last(rings int) int {
	return 1<<rings - 1
}

// number returns the number of a position.
func (b bar) number() int {
	number, odd := 0, false
	for ring := b.rings - 1; ring >= 0; ring-- {
		odd = odd != b.on[ring]
		number *= 2
		if odd {
			number++
		}
	}
	return number
}

// numbered returns the position of so many rings with a number.
func numbered(rings, number int) bar {
	b := bar{rings: rings}
	for ring := range rings {
		// A ring is on where its digit differs from the one that was written before it.
		b.on[ring] = number>>ring&1 != number>>(ring+1)&1
	}
	return b
}

// walk is the shortest way between two positions: along the numbers from one to the other.
type walk struct {
	rings, from, to int
}

// between returns the shortest way between two positions.
func between(from, to []int) (walk, api.Errno) {
	a, b, e := laidBoth(from, to)
	return walk{rings: a.rings, from: a.number(), to: b.number()}, e
}

// length returns the number of moves.
func (w walk) length() int {
	return max(w.from, w.to) - min(w.from, w.to)
}

// at returns the number of the position after so many moves.
func (w walk) at(moves int) int {
	if w.to < w.from {
		return w.from - moves
	}
	return w.from + moves
}

// ring returns the ring that is moved after so many moves.
func (w walk) ring(moves int) int {
	// The greater one of two neighbouring numbers ends with 1 and zeros where the smaller one ends
	// with 0 and ones. Of the places where digits change, just the ring at that 1 differs from the
	// digit before it in one of both only.
	return bits.TrailingZeros(uint(max(w.at(moves), w.at(moves+1))))
}

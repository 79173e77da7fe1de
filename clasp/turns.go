package clasp

import "aigrette/api"

// laidPair returns the positions of a pair.
func laidPair(p Pair) (bar, bar, api.Errno) {
	first, e := laid(p.First)
	if e != api.OK {
		return bar{}, bar{}, e
	}
	second, e := laid(p.Second)
	if e != api.OK {
		return bar{}, bar{}, e
	}
	if first.rings > MaxPair || second.rings > MaxPair {
		return bar{}, bar{}, api.ErrMany
	}
	return first, second, api.OK
}

// shares returns how many of so many moves in turns are of the first clasp, and how many of the second.
func shares(moves int) (int, int) {
	return (moves + 1) / 2, moves / 2
}

// opens tells whether a clasp can be open after just so many moves. Each move changes the number by 1;
// moves that are left over are made there and back.
func (b bar) opens(moves int) bool {
	left := moves - b.number()
	return left >= 0 && left%2 == 0
}

// together returns after how few moves, in turns, both are open. One more move changes the share of just
// one clasp, so among numbers that are large enough there is one where both shares fit.
func together(first, second bar) int {
	for moves := 0; ; moves++ {
		a, b := shares(moves)
		if first.opens(a) && second.opens(b) {
			return moves
		}
	}
}

// turns returns the first list of so few moves. Each clasp has its own places in it, so the list is
// smallest if the moves of each clasp are.
func turns(first, second bar) []int {
	moves := together(first, second)
	a, b := shares(moves)
	ofFirst, ofSecond := first.opening(a), second.opening(b)
	list := make([]int, 0, moves)
	for i, ring := range ofFirst {
		list = append(list, ring)
		if i < len(ofSecond) {
			list = append(list, ofSecond[i])
		}
	}
	return list
}

// opening returns the first list of just so many moves after which a clasp that opens so is open.
func (b bar) opening(moves int) []int {
	list := make([]int, 0, moves)
	for left := moves - 1; left >= 0; left-- {
		for _, ring := range b.loose() {
			if next, _ := b.moved(ring); next.opens(left) {
				list, b = append(list, ring), next
				break
			}
		}
	}
	return list
}

package quarrel

import "slices"

// brawls returns all brawls. Those that begin with the same people are next to each other, the shortest first,
// so they ascend (R6).
func (t table) brawls() [][]int {
	return t.longer(nil)
}

// longer returns all brawls that begin with a smaller one and have more people.
func (t table) longer(brawl []int) [][]int {
	first := 0
	if len(brawl) > 0 {
		first = brawl[len(brawl)-1] + 1
	}
	var all [][]int
search:
	for person := first; person < t.people; person++ {
		for _, other := range brawl {
			if !t.quarrel[person][other] {
				continue search
			}
		}
		next := append(slices.Clone(brawl), person)
		all = append(all, next)
		all = append(all, t.longer(next)...)
	}
	return all
}

// largest returns the first one of the brawls with the most people.
func (t table) largest() []int {
	var largest []int
	for _, brawl := range t.brawls() {
		if len(brawl) > len(largest) {
			largest = brawl
		}
	}
	return largest
}

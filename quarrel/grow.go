package quarrel

import "aigrette/api"

// proof returns the first three people who prove that a house is not parted, if there are such: the first one
// quarrels with the last one, but the second one with neither.
func (t table) proof() ([3]int, bool) {
	var three [3]int
	found := false
search:
	for a := range t.people {
		for b := range t.people {
			for c := range t.people {
				if t.quarrel[a][c] && !t.quarrel[a][b] && !t.quarrel[b][c] {
					three, found = [3]int{a, b, c}, true
					break search
				}
			}
		}
	}
	return three, found
}

// groups returns the groups of a parted house: a person and those with whom this person does not quarrel.
func (t table) groups() [][]int {
	var groups [][]int
	for person := range t.people {
		group := t.friends(person)
		if group[0] == person {
			groups = append(groups, group)
		}
	}
	return groups
}

// friends returns the people with whom one does not quarrel, this one among them.
func (t table) friends(person int) []int {
	var friends []int
	for other := range t.people {
		if !t.quarrel[person][other] {
			friends = append(friends, other)
		}
	}
	return friends
}

// checkCopy returns the error of b copying a.
func (t table) checkCopy(a, b int) api.Errno {
	switch {
	case !t.isPerson(a) || !t.isPerson(b):
		return api.ErrNone
	case a == b || t.quarrel[a][b]:
		return api.ErrClash
	}
	return api.OK
}

// copy lets b copy a.
func (t *table) copy(a, b int) {
	for other := range t.people {
		t.set(b, other, t.quarrel[a][other])
	}
}

// grow returns copies that lead to a parted house. As long as there are three people who prove that it is not
// parted, the second one copies one of the others if that makes the quarrels more; else both others copy the
// second one, which also makes them more, since the quarrel between them counts for both. There are at most 28
// quarrels, so at most 56 copies; none of them makes a brawl larger (P12.9).
func (t table) grow() [][2]int {
	var copies [][2]int
again:
	three, found := t.proof()
	if !found {
		return copies
	}
	for _, next := range t.better(three) {
		t.copy(next[0], next[1])
		copies = append(copies, next)
	}
	goto again
}

// better returns the copies among three people who prove that a house is not parted.
func (t table) better(three [3]int) [][2]int {
	a, b, c := three[0], three[1], three[2]
	switch {
	case t.often(a) > t.often(b):
		return [][2]int{{a, b}}
	case t.often(c) > t.often(b):
		return [][2]int{{c, b}}
	}
	return [][2]int{{b, a}, {b, c}}
}

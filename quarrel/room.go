package quarrel

import "slices"

// rooms returns the first one of the fewest rooms. Each person of a brawl is in another one, so there are no
// fewer than the largest brawl has people; one for each person is always enough.
func (t table) rooms() []int {
	for number := len(t.largest()); number < t.people; number++ {
		if rooms, found := t.filled(nil, number); found {
			return rooms
		}
	}
	rooms, _ := t.filled(nil, t.people)
	return rooms
}

// filled returns the first way to complete the rooms of the first people with so many rooms, if there is one.
func (t table) filled(rooms []int, number int) ([]int, bool) {
	person := len(rooms)
	if person == t.people {
		return rooms, true
	}
search:
	for room := range number {
		for other, taken := range rooms {
			if taken == room && t.quarrel[person][other] {
				continue search
			}
		}
		if all, found := t.filled(append(slices.Clone(rooms), room), number); found {
			return all, true
		}
	}
	return nil, false
}

package quarrel

// table is a house as a table: which of its people quarrel with which others.
type table struct {
	people  int
	quarrel [MaxPeople][MaxPeople]bool
}

func tableOf(h House) table {
	t := table{people: h.People}
	for _, pair := range h.Quarrels {
		t.set(pair[0], pair[1], true)
	}
	return t
}

// house returns the house of a table, with its quarrels in ascending order.
func (t table) house() House {
	h := House{People: t.people}
	for person := range t.people {
		for other := person + 1; other < t.people; other++ {
			if t.quarrel[person][other] {
				h.Quarrels = append(h.Quarrels, [2]int{person, other})
			}
		}
	}
	return h
}

// even returns the even house.
func even(people, groups int) table {
	t := table{people: people}
	for person := range people {
		for other := range person {
			t.set(person, other, person%groups != other%groups)
		}
	}
	return t
}

// set notes on both sides whether two people quarrel.
func (t *table) set(one, other int, quarrel bool) {
	t.quarrel[one][other] = quarrel
	t.quarrel[other][one] = quarrel
}

func (t table) isPerson(person int) bool {
	return person >= 0 && person < t.people
}

// often returns with how many others a person quarrels.
func (t table) often(person int) int {
	often := 0
	for other := range t.people {
		if t.quarrel[person][other] {
			often++
		}
	}
	return often
}

// quarrels returns how many quarrels there are.
func (t table) quarrels() int {
	return len(t.house().Quarrels)
}

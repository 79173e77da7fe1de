package quarrel_test

// All results compared with what the chapter's definitions alone say. Here a house is a list of pairs.

import (
	"math"
	"slices"
	"testing"

	"aigrette/api"
	"aigrette/quarrel"
)

// seeds returns numbers that look as if they were drawn.
func seeds(seed int) func(bound int) int {
	state := uint32(seed*7919 + 17)
	return func(bound int) int {
		state = state*1664525 + 1013904223
		return int(state>>16) % bound
	}
}

// allPairs returns all pairs of so many people.
func allPairs(people int) [][2]int {
	var l [][2]int
	for a := range people {
		for b := a + 1; b < people; b++ {
			l = append(l, [2]int{a, b})
		}
	}
	return l
}

// drawnHouse returns a house that looks as if it was drawn, with its quarrels in no order.
func drawnHouse(people, seed int) quarrel.House {
	draw := seeds(seed)
	h := house(people)
	share := 1 + draw(9)
	for _, pair := range allPairs(people) {
		if draw(10) < share {
			h.Quarrels = slices.Insert(h.Quarrels, draw(len(h.Quarrels)+1), pair)
		}
	}
	return h
}

// housesOf calls do with all houses of so many people, with their quarrels in ascending order.
func housesOf(people int, do func(h quarrel.House)) {
	all := allPairs(people)
	for set := range 1 << len(all) {
		h := house(people)
		for i, pair := range all {
			if set>>i&1 == 1 {
				h.Quarrels = append(h.Quarrels, pair)
			}
		}
		do(h)
	}
}

// someHouses calls do with all houses of up to five people, and drawn ones of six to eight.
func someHouses(do func(h quarrel.House)) {
	for people := 1; people <= 5; people++ {
		housesOf(people, do)
	}
	for people := 6; people <= 8; people++ {
		for seed := range 200 {
			do(drawnHouse(people, seed))
		}
	}
}

// isPair tells whether two people quarrel, in whichever order they are named.
func isPair(h quarrel.House, a, b int) bool {
	return slices.Contains(h.Quarrels, [2]int{min(a, b), max(a, b)})
}

// errorOf returns the error of a house.
func errorOf(h quarrel.House) api.Errno {
	if h.People < 1 || h.People > 8 {
		return api.ErrRange
	}
	for i, pair := range h.Quarrels {
		for _, person := range pair {
			if person < 0 || person >= h.People {
				return api.ErrNone
			}
		}
		if pair[0] >= pair[1] {
			return api.ErrOrder
		}
		if slices.Contains(h.Quarrels[:i], pair) {
			return api.ErrTwice
		}
	}
	return api.OK
}

// listsOf returns all lists of so many of some numbers, in ascending order if the numbers ascend.
func listsOf(length int, numbers ...int) [][]int {
	all := lists(nil)
	for range length {
		var longer [][]int
		for _, l := range all {
			for _, number := range numbers {
				longer = append(longer, append(slices.Clone(l), number))
			}
		}
		all = longer
	}
	return all
}

// numbersFrom returns the numbers from one to another one.
func numbersFrom(from, to int) []int {
	var l []int
	for number := from; number <= to; number++ {
		l = append(l, number)
	}
	return l
}

// P12.1: Check of all lists of up to three pairs of up to three people, some of which are none.
func TestCheckOfAllLists(t *testing.T) {
	for people := -1; people <= 3; people++ {
		for length := range 4 {
			for _, numbers := range listsOf(2*length, numbersFrom(-1, people)...) {
				h := house(people, numbers...)
				if e := quarrel.Check(h); e != errorOf(h) {
					t.Fatalf("Check of %v: %d, want %d", h, e, errorOf(h))
				}
			}
		}
	}
}

// P12.1: Check of drawn lists, some of which have one pair or two that are none, or are there twice.
func TestCheckOfDrawnLists(t *testing.T) {
	for seed := range 20000 {
		draw := seeds(seed)
		h := drawnHouse(1+draw(8), seed)
		for range draw(3) {
			pair := [2]int{draw(10) - 1, draw(10) - 1}
			if len(h.Quarrels) > 0 && draw(3) == 0 {
				pair = h.Quarrels[draw(len(h.Quarrels))]
			}
			h.Quarrels = slices.Insert(h.Quarrels, draw(len(h.Quarrels)+1), pair)
		}
		if e := quarrel.Check(h); e != errorOf(h) {
			t.Fatalf("Check of %v: %d, want %d", h, e, errorOf(h))
		}
	}
}

// oftenOf returns with how many others each person quarrels.
func oftenOf(h quarrel.House) []int {
	often := make([]int, h.People)
	for _, pair := range h.Quarrels {
		often[pair[0]]++
		often[pair[1]]++
	}
	return often
}

// brawlsOf returns all brawls: all sets of people each two of whom quarrel.
func brawlsOf(h quarrel.House) [][]int {
	var brawls [][]int
	for set := 1; set < 1<<h.People; set++ {
		var people []int
		is := true
		for person := range h.People {
			if set>>person&1 == 0 {
				continue
			}
			for _, other := range people {
				is = is && isPair(h, other, person)
			}
			people = append(people, person)
		}
		if is {
			brawls = append(brawls, people)
		}
	}
	return brawls
}

// largestOf returns how many people the largest brawl has.
func largestOf(h quarrel.House) int {
	largest := 0
	for _, brawl := range brawlsOf(h) {
		largest = max(largest, len(brawl))
	}
	return largest
}

// P12.1, P12.2, F1, F3: Often, Brawl and Count compared with all sets of people.
func TestBrawlsByDefinition(t *testing.T) {
	someHouses(func(h quarrel.House) {
		often, e := quarrel.Often(h)
		same(t, "Often", often, e, oftenOf(h), api.OK)
		var first []int
		count := make([]int, 10)
		for _, brawl := range brawlsOf(h) {
			count[len(brawl)]++
			if len(brawl) > len(first) || len(brawl) == len(first) && slices.Compare(brawl, first) < 0 {
				first = brawl
			}
		}
		brawl, e := quarrel.Brawl(h)
		same(t, "Brawl", brawl, e, first, api.OK)
		for size := 1; size <= 8; size++ {
			n, e := quarrel.Count(h, size)
			sameNumber(t, "Count", n, e, count[size], api.OK)
		}
	})
}

// isQuiet tells whether nobody quarrels with anybody in the same room.
func isQuiet(h quarrel.House, rooms []int) bool {
	return !slices.ContainsFunc(h.Quarrels, func(pair [2]int) bool { return rooms[pair[0]] == rooms[pair[1]] })
}

// next makes a list of numbers from 0 on, smaller than a bound, the next one, and tells whether there is one.
func next(l []int, bound int) bool {
	for i := len(l) - 1; i >= 0; i-- {
		l[i]++
		if l[i] < bound {
			return true
		}
		l[i] = 0
	}
	return false
}

// roomsOf returns the first of the rooms with the smallest number of rooms with which there are any.
func roomsOf(h quarrel.House) []int {
	for bound := 1; ; bound++ {
		rooms := times(h.People, 0)
		for is := true; is; is = next(rooms, bound) {
			if isQuiet(h, rooms) {
				return rooms
			}
		}
	}
}

// P12.3, F3: Rooms compared with all lists of rooms; of seven and eight people, where these lists are many, only
// if no brawl has more than four of them.
func TestRoomsByDefinition(t *testing.T) {
	someHouses(func(h quarrel.House) {
		rooms, e := quarrel.Rooms(h)
		if h.People <= 6 || largestOf(h) <= 4 {
			same(t, "Rooms", rooms, e, roomsOf(h), api.OK)
		}
	})
}

// threesOf returns all lists of three people of whom the first one and the last one quarrel, but neither
// quarrels with the second one, in ascending order.
func threesOf(h quarrel.House) [][]int {
	var threes [][]int
	for _, l := range listsOf(3, numbersFrom(0, h.People-1)...) {
		if isPair(h, l[0], l[2]) && !isPair(h, l[0], l[1]) && !isPair(h, l[1], l[2]) {
			threes = append(threes, l)
		}
	}
	return threes
}

// groupsOf returns the groups, if people are divided such that just those of different groups quarrel.
func groupsOf(h quarrel.House) [][]int {
	var groups [][]int
	for person := range h.People {
		i := slices.IndexFunc(groups, func(group []int) bool { return !isPair(h, group[0], person) })
		if i < 0 {
			groups = append(groups, list(person))
		} else {
			groups[i] = append(groups[i], person)
		}
	}
	return groups
}

// areGroups tells whether just people of different groups quarrel.
func areGroups(h quarrel.House, groups [][]int) bool {
	at := make([]int, h.People)
	for i, group := range groups {
		for _, person := range group {
			at[person] = i
		}
	}
	for _, pair := range allPairs(h.People) {
		if (at[pair[0]] != at[pair[1]]) != isPair(h, pair[0], pair[1]) {
			return false
		}
	}
	return true
}

// P12.4, F1, F4: Parted and Groups compared with all lists of three people, and Groups with what groups are.
func TestPartedByDefinition(t *testing.T) {
	someHouses(func(h quarrel.House) {
		three, e := threeOf(h)
		groups, clash := quarrel.Groups(h)
		if threes := threesOf(h); len(threes) > 0 {
			same(t, "Parted", three, e, threes[0], api.ErrProof)
			sameLists(t, "Groups", groups, clash, nil, api.ErrClash)
			return
		}
		same(t, "Parted", three, e, list(0, 0, 0), api.OK)
		sameLists(t, "Groups", groups, clash, groupsOf(h), api.OK)
		if !areGroups(h, groups) {
			t.Errorf("Groups of %v: %v", h, groups)
		}
	})
}

// copied returns the house in which b has copied a, and the error of Copy.
func copied(h quarrel.House, a, b int) (quarrel.House, api.Errno) {
	if a < 0 || a >= h.People || b < 0 || b >= h.People {
		return quarrel.House{}, api.ErrNone
	}
	if a == b || isPair(h, a, b) {
		return quarrel.House{}, api.ErrClash
	}
	after := house(h.People)
	for _, pair := range allPairs(h.People) {
		switch {
		case pair[0] == b && isPair(h, a, pair[1]), pair[1] == b && isPair(h, a, pair[0]):
			after.Quarrels = append(after.Quarrels, pair)
		case pair[0] != b && pair[1] != b && isPair(h, pair[0], pair[1]):
			after.Quarrels = append(after.Quarrels, pair)
		}
	}
	return after, api.OK
}

// P12.5: Copy of all pairs of people, and some who are none.
func TestCopyByDefinition(t *testing.T) {
	someHouses(func(h quarrel.House) {
		for a := -1; a <= h.People; a++ {
			for b := -1; b <= h.People; b++ {
				want, wanted := copied(h, a, b)
				got, e := quarrel.Copy(h, a, b)
				sameHouse(t, "Copy", got, e, want, wanted)
			}
		}
	})
}

// growsOf returns the error of Grows.
func growsOf(h quarrel.House, copies [][2]int) api.Errno {
	after := h
	for _, pair := range copies {
		var e api.Errno
		if after, e = copied(after, pair[0], pair[1]); e != api.OK {
			return e
		}
	}
	if len(threesOf(after)) > 0 || len(after.Quarrels) < len(h.Quarrels) || largestOf(after) > largestOf(h) {
		return api.ErrProof
	}
	return api.OK
}

// P12.6, F4: what Grow returns does what it says, for all houses of up to five people and drawn ones.
func TestGrowByDefinition(t *testing.T) {
	someHouses(func(h quarrel.House) {
		copies, e := quarrel.Grow(h)
		if e != api.OK || len(copies) > 100 || growsOf(h, copies) != api.OK {
			t.Errorf("Grow of %v: %v %d", h, copies, e)
		}
		sameError(t, "Grows of Grow", quarrel.Grows(h, copies), api.OK)
	})
}

// P12.6: what Grow returns for all houses of six people is accepted.
func TestGrowOfSix(t *testing.T) {
	housesOf(6, func(h quarrel.House) {
		copies, e := quarrel.Grow(h)
		if e != api.OK || len(copies) > 100 || quarrel.Grows(h, copies) != api.OK {
			t.Errorf("Grow of %v: %v %d", h, copies, e)
		}
	})
}

// P12.6: Grows of all lists of up to two copies of houses of up to four people.
func TestGrowsOfAllCopies(t *testing.T) {
	for people := 1; people <= 4; people++ {
		housesOf(people, func(h quarrel.House) {
			for length := range 3 {
				for _, numbers := range listsOf(2*length, numbersFrom(0, people)...) {
					copies := pairs(numbers...)
					if e := quarrel.Grows(h, copies); e != growsOf(h, copies) {
						t.Fatalf("Grows of %v: %v: %d, want %d", h, copies, e, growsOf(h, copies))
					}
				}
			}
		})
	}
}

// drawnCopies returns copies most of which can be done, one after the other.
func drawnCopies(h quarrel.House, draw func(bound int) int) [][2]int {
	var copies [][2]int
	for range draw(2 * h.People) {
		pair := [2]int{draw(h.People), draw(h.People)}
		if after, e := copied(h, pair[0], pair[1]); e == api.OK {
			h = after
		} else if draw(20) > 0 {
			continue
		}
		copies = append(copies, pair)
	}
	return copies
}

// P12.6: Grows of drawn copies; each kind of result comes about, from copies that were drawn or those of Grow.
func TestGrowsOfDrawnCopies(t *testing.T) {
	seen := map[api.Errno]int{}
	for people := 3; people <= 8; people++ {
		for seed := range 400 {
			h := drawnHouse(people, seed)
			copies := drawnCopies(h, seeds(seed+1))
			e := quarrel.Grows(h, copies)
			sameError(t, "Grows", e, growsOf(h, copies))
			seen[e]++
			grow, _ := quarrel.Grow(h)
			if len(grow) > 0 {
				copies = grow[:len(grow)-1]
				sameError(t, "Grows of a part", quarrel.Grows(h, copies), growsOf(h, copies))
			}
		}
	}
	if seen[api.OK] < 50 || seen[api.ErrProof] < 50 || seen[api.ErrClash] < 50 {
		t.Errorf("Grows: %v", seen)
	}
}

// P12.7: Even compared with its definition.
func TestEvenByDefinition(t *testing.T) {
	for people := 1; people <= 8; people++ {
		for groups := 1; groups <= 8; groups++ {
			want := house(people)
			for _, pair := range allPairs(people) {
				if pair[0]%groups != pair[1]%groups {
					want.Quarrels = append(want.Quarrels, pair)
				}
			}
			h, e := quarrel.Even(people, groups)
			sameHouse(t, "Even", h, e, want, api.OK)
		}
	}
}

// P12.7, F3: Most compared with all houses of up to six people.
func TestMostByDefinition(t *testing.T) {
	for people := 1; people <= 6; people++ {
		most := make([]int, 9)
		housesOf(people, func(h quarrel.House) {
			if largest := largestOf(h); len(h.Quarrels) > most[largest] {
				most[largest] = len(h.Quarrels)
			}
		})
		for brawl := 1; brawl <= 8; brawl++ {
			n, e := quarrel.Most(people, brawl)
			sameNumber(t, "Most", n, e, slices.Max(most[:brawl+1]), api.OK)
		}
	}
}

// P12.7, F3: no house of seven or eight people has more quarrels than Most says. Each of its quarrels is also
// one of all the houses without one of its people but two, and these have no larger brawls; and if each two
// people quarrel, all of them are a brawl. That there is such a house is what P12.8 says.
func TestMostOfMorePeople(t *testing.T) {
	for people := 3; people <= 8; people++ {
		for brawl := 1; brawl <= 8; brawl++ {
			fewer, e := quarrel.Most(people-1, brawl)
			sameError(t, "Most", e, api.OK)
			bound := people * fewer / (people - 2)
			if brawl < people {
				bound = min(bound, people*(people-1)/2-1)
			}
			n, e := quarrel.Most(people, brawl)
			sameNumber(t, "Most", n, e, bound, api.OK)
		}
	}
}

// P12.1 to P12.7: all bounds of numbers.
func TestBounds(t *testing.T) {
	for _, number := range list(math.MinInt, -9, -1, 0, 1, 7, 8, 9, math.MaxInt) {
		for _, other := range list(math.MinInt, -9, -1, 0, 1, 7, 8, 9, math.MaxInt) {
			wanted := api.OK
			if number < 1 || number > 8 || other < 1 || other > 8 {
				wanted = api.ErrRange
			}
			_, e := quarrel.Most(number, other)
			sameError(t, "Most", e, wanted)
			_, e = quarrel.Even(number, other)
			sameError(t, "Even", e, wanted)
			_, e = quarrel.Count(house(number), other)
			sameError(t, "Count", e, wanted)
		}
	}
}

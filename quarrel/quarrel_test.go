package quarrel_test

// P12.1 to P12.7, and the table of examples.

import (
	"math"
	"slices"
	"testing"

	"aigrette/api"
	"aigrette/quarrel"
)

func list(l ...int) []int { return l }

func lists(l ...[]int) [][]int { return l }

// times returns a list of the same number.
func times(often, number int) []int { return slices.Repeat(list(number), often) }

// pairs returns pairs: of its numbers, each two are one.
func pairs(numbers ...int) [][2]int {
	var l [][2]int
	for pair := range slices.Chunk(numbers, 2) {
		l = append(l, [2]int(pair))
	}
	return l
}

// house returns a house: of its numbers, each two are a quarrel.
func house(people int, numbers ...int) quarrel.House {
	return quarrel.House{People: people, Quarrels: pairs(numbers...)}
}

// exampleH and exampleK are H and K of the table of examples.
func exampleH() quarrel.House { return house(5, 0, 1, 1, 2, 2, 3, 3, 4, 0, 4) }

func exampleK() quarrel.House { return house(4, 0, 1, 0, 3, 1, 2, 2, 3) }

// everybody returns the house in which each two people quarrel.
func everybody(people int) quarrel.House {
	return quarrel.House{People: people, Quarrels: allPairs(people)}
}

// ring returns the house in which each person quarrels with the next one, and the last one with the first.
func ring(people int) quarrel.House {
	h := house(people, 0, people-1)
	for person := 1; person < people; person++ {
		h.Quarrels = append(h.Quarrels, [2]int{person - 1, person})
	}
	return h
}

// crown returns eight people: each with an even number quarrels with all with odd ones but the next one.
func crown() quarrel.House {
	return house(8, 0, 3, 0, 5, 0, 7, 1, 2, 2, 5, 2, 7, 1, 4, 3, 4, 4, 7, 1, 6, 3, 6, 5, 6)
}

// spindle returns seven people who need four rooms, though no four of them are a brawl.
func spindle() quarrel.House {
	return house(7, 0, 1, 0, 2, 1, 2, 1, 3, 2, 3, 0, 4, 0, 5, 4, 5, 4, 6, 5, 6, 3, 6)
}

func sameError(t *testing.T, name string, got, want api.Errno) {
	t.Helper()
	if got != want {
		t.Errorf("%s: %d, want %d", name, got, want)
	}
}

func sameNumber(t *testing.T, name string, got int, e api.Errno, want int, wanted api.Errno) {
	t.Helper()
	if got != want || e != wanted {
		t.Errorf("%s: %d %d, want %d %d", name, got, e, want, wanted)
	}
}

func same(t *testing.T, name string, got []int, e api.Errno, want []int, wanted api.Errno) {
	t.Helper()
	if !slices.Equal(got, want) || e != wanted {
		t.Errorf("%s: %v %d, want %v %d", name, got, e, want, wanted)
	}
}

func sameLists(t *testing.T, name string, got [][]int, e api.Errno, want [][]int, wanted api.Errno) {
	t.Helper()
	if !slices.EqualFunc(got, want, slices.Equal[[]int]) || e != wanted {
		t.Errorf("%s: %v %d, want %v %d", name, got, e, want, wanted)
	}
}

func isSame(one, other quarrel.House) bool {
	return one.People == other.People && slices.Equal(one.Quarrels, other.Quarrels)
}

func sameHouse(t *testing.T, name string, got quarrel.House, e api.Errno, want quarrel.House, wanted api.Errno) {
	t.Helper()
	if !isSame(got, want) || e != wanted {
		t.Errorf("%s: %v %d, want %v %d", name, got, e, want, wanted)
	}
}

// threeOf returns the three people of Parted as a list, and its error.
func threeOf(h quarrel.House) ([]int, api.Errno) {
	a, b, c, e := quarrel.Parted(h)
	return list(a, b, c), e
}

func TestExamplesOfBrawls(t *testing.T) {
	l, e := quarrel.Often(exampleH())
	same(t, "Often of H", l, e, times(5, 2), api.OK)
	l, e = quarrel.Brawl(exampleH())
	same(t, "Brawl of H", l, e, list(0, 1), api.OK)
	n, e := quarrel.Count(exampleH(), 2)
	sameNumber(t, "Count of H: 2", n, e, 5, api.OK)
	n, e = quarrel.Count(exampleH(), 3)
	sameNumber(t, "Count of H: 3", n, e, 0, api.OK)
	l, e = quarrel.Rooms(exampleH())
	same(t, "Rooms of H", l, e, list(0, 1, 0, 1, 2), api.OK)
	l, e = quarrel.Rooms(exampleK())
	same(t, "Rooms of K", l, e, list(0, 1, 0, 1), api.OK)
}

func TestExamplesOfGroups(t *testing.T) {
	l, e := threeOf(exampleH())
	same(t, "Parted of H", l, e, list(0, 2, 4), api.ErrProof)
	l, e = threeOf(exampleK())
	same(t, "Parted of K", l, e, list(0, 0, 0), api.OK)
	g, e := quarrel.Groups(exampleK())
	sameLists(t, "Groups of K", g, e, lists(list(0, 2), list(1, 3)), api.OK)
	h, e := quarrel.Copy(exampleH(), 0, 2)
	sameHouse(t, "Copy of H: 0 by 2", h, e, house(5, 0, 1, 0, 4, 1, 2, 2, 4, 3, 4), api.OK)
	h, e = quarrel.Copy(exampleH(), 0, 1)
	sameHouse(t, "Copy of H: 0 by 1", h, e, quarrel.House{}, api.ErrClash)
	sameError(t, "Grows of H: 0 2, 1 3", quarrel.Grows(exampleH(), pairs(0, 2, 1, 3)), api.OK)
	sameError(t, "Grows of H: no copies", quarrel.Grows(exampleH(), nil), api.ErrProof)
}

func TestExamplesOfMost(t *testing.T) {
	n, e := quarrel.Most(5, 2)
	sameNumber(t, "Most of 5, 2", n, e, 6, api.OK)
	n, e = quarrel.Most(5, 3)
	sameNumber(t, "Most of 5, 3", n, e, 8, api.OK)
	n, e = quarrel.Most(4, 8)
	sameNumber(t, "Most of 4, 8", n, e, 6, api.OK)
	h, e := quarrel.Even(5, 2)
	sameHouse(t, "Even of 5, 2", h, e, house(5, 0, 1, 0, 3, 1, 2, 1, 4, 2, 3, 3, 4), api.OK)
}

// Each of its five people quarrels with two others in a circle: they need three rooms (DOC.md, example 12).
func TestExampleOfTheDocument(t *testing.T) {
	l, e := quarrel.Rooms(ring(5))
	if e != api.OK || slices.Max(l) != 2 {
		t.Errorf("Rooms of a circle of five: %v %d", l, e)
	}
}

type wrongHouse struct {
	house quarrel.House
	e     api.Errno
}

// wrong returns lists that are no houses.
func wrong() []wrongHouse {
	return []wrongHouse{
		{house(0), api.ErrRange},
		{house(-1), api.ErrRange},
		{house(9), api.ErrRange},
		{house(9, 0, 8), api.ErrRange},
		{house(math.MinInt), api.ErrRange},
		{house(math.MaxInt, 0, 1), api.ErrRange},
		{house(0, 5, 5), api.ErrRange},
		{house(1, 0, 1), api.ErrNone},
		{house(2, 0, 2), api.ErrNone},
		{house(2, -1, 0), api.ErrNone},
		{house(2, 2, 0), api.ErrNone},
		{house(2, 0, -1), api.ErrNone},
		{house(2, 3, 3), api.ErrNone},
		{house(8, 0, 8), api.ErrNone},
		{house(8, 0, 1, math.MinInt, math.MaxInt), api.ErrNone},
		{house(2, 1, 0), api.ErrOrder},
		{house(2, 1, 1), api.ErrOrder},
		{house(1, 0, 0), api.ErrOrder},
		{house(2, 0, 1, 1, 0), api.ErrOrder},
		{house(8, 6, 7, 7, 6), api.ErrOrder},
		{house(2, 0, 1, 0, 1), api.ErrTwice},
		{house(3, 1, 2, 0, 1, 1, 2), api.ErrTwice},
		{house(4, 0, 1, 2, 3, 2, 3, 9, 9), api.ErrTwice},
		{house(4, 0, 1, 3, 2, 0, 1), api.ErrOrder},
		{house(4, 0, 1, 3, 4, 3, 2), api.ErrNone},
	}
}

// P12.1: Check.
func TestCheck(t *testing.T) {
	for _, h := range []quarrel.House{exampleH(), exampleK(), crown(), spindle(), house(1), house(8), house(2, 0, 1), house(8, 6, 7, 0, 7, 0, 1), everybody(8), ring(8)} {
		sameError(t, "Check", quarrel.Check(h), api.OK)
	}
	for i, x := range wrong() {
		if e := quarrel.Check(x.house); e != x.e {
			t.Errorf("Check of wrong house %d: %d, want %d", i, e, x.e)
		}
	}
}

// P12.1: all other functions of a house return at first the error of Check.
func TestCheckAtFirst(t *testing.T) {
	for _, x := range wrong() {
		for _, call := range callsOfHouse(x.house, -1, -1, -1, pairs(-1, -1)) {
			results := call.results()
			if e := results[len(results)-1]; e != x.e {
				t.Errorf("%s of %v: %d, want %d", call.name, x.house, e, x.e)
			}
		}
	}
}

// P12.1: Often.
func TestOften(t *testing.T) {
	for _, x := range []struct {
		house quarrel.House
		often []int
	}{
		{house(1), list(0)},
		{house(3), list(0, 0, 0)},
		{house(4, 1, 3), list(0, 1, 0, 1)},
		{house(4, 2, 3, 0, 3, 1, 3), list(1, 1, 1, 3)},
		{house(8, 0, 7, 0, 1), list(2, 1, 0, 0, 0, 0, 0, 1)},
		{spindle(), list(4, 3, 3, 3, 3, 3, 3)},
		{crown(), times(8, 3)},
		{everybody(8), times(8, 7)},
	} {
		often, e := quarrel.Often(x.house)
		same(t, "Often", often, e, x.often, api.OK)
	}
}

// P12.2: Brawl.
func TestBrawl(t *testing.T) {
	for _, x := range []struct {
		house quarrel.House
		brawl []int
	}{
		{house(1), list(0)},
		{house(8), list(0)},
		{house(8, 6, 7), list(6, 7)},
		{house(4, 2, 3, 0, 3), list(0, 3)},
		{house(6, 2, 3, 2, 4, 3, 4, 0, 5, 1, 5), list(2, 3, 4)},
		{house(6, 3, 4, 3, 5, 4, 5, 0, 2, 0, 4, 2, 4), list(0, 2, 4)},
		{house(6, 3, 4, 3, 5, 4, 5, 0, 1, 1, 2), list(3, 4, 5)},
		{spindle(), list(0, 1, 2)},
		{crown(), list(0, 3)},
		{everybody(8), list(0, 1, 2, 3, 4, 5, 6, 7)},
	} {
		brawl, e := quarrel.Brawl(x.house)
		same(t, "Brawl", brawl, e, x.brawl, api.OK)
	}
}

// P12.2: Count.
func TestCount(t *testing.T) {
	for _, x := range []struct {
		house quarrel.House
		count []int
	}{
		{house(1), list(1, 0, 0, 0, 0, 0, 0, 0)},
		{house(8), list(8, 0, 0, 0, 0, 0, 0, 0)},
		{everybody(8), list(8, 28, 56, 70, 56, 28, 8, 1)},
		{everybody(4), list(4, 6, 4, 1, 0, 0, 0, 0)},
		{spindle(), list(7, 11, 4, 0, 0, 0, 0, 0)},
		{crown(), list(8, 12, 0, 0, 0, 0, 0, 0)},
		{house(4, 1, 3, 2, 3, 1, 2), list(4, 3, 1, 0, 0, 0, 0, 0)},
	} {
		for i, count := range x.count {
			n, e := quarrel.Count(x.house, i+1)
			sameNumber(t, "Count", n, e, count, api.OK)
		}
		for _, size := range list(math.MinInt, -1, 0, 9, 10, math.MaxInt) {
			n, e := quarrel.Count(x.house, size)
			sameNumber(t, "Count of a size out of bounds", n, e, 0, api.ErrRange)
		}
	}
}

// P12.3: Rooms.
func TestRooms(t *testing.T) {
	for _, x := range []struct {
		house quarrel.House
		rooms []int
	}{
		{house(1), list(0)},
		{house(8), times(8, 0)},
		{house(8, 6, 7), list(0, 0, 0, 0, 0, 0, 0, 1)},
		// the first room that is free for each person, one after the other, would be 0, 0, 1, 2
		{house(4, 0, 2, 2, 3, 1, 3), list(0, 1, 1, 0)},
		{crown(), list(0, 1, 0, 1, 0, 1, 0, 1)},
		{spindle(), list(0, 1, 2, 0, 1, 2, 3)},
		{ring(7), list(0, 1, 0, 1, 0, 1, 2)},
		{ring(8), list(0, 1, 0, 1, 0, 1, 0, 1)},
		{house(4, 1, 3, 2, 3, 1, 2), list(0, 0, 1, 2)},
		{everybody(8), list(0, 1, 2, 3, 4, 5, 6, 7)},
	} {
		rooms, e := quarrel.Rooms(x.house)
		same(t, "Rooms", rooms, e, x.rooms, api.OK)
	}
}

// P12.4: Parted and Groups of parted houses.
func TestPartedHouses(t *testing.T) {
	for _, x := range []struct {
		house  quarrel.House
		groups [][]int
	}{
		{house(1), lists(list(0))},
		{house(2), lists(list(0, 1))},
		{house(2, 0, 1), lists(list(0), list(1))},
		{house(3, 1, 2, 0, 1), lists(list(0, 2), list(1))},
		{house(8), lists(list(0, 1, 2, 3, 4, 5, 6, 7))},
		{house(4, 0, 1, 0, 2, 0, 3, 1, 2, 2, 3), lists(list(0), list(1, 3), list(2))},
		{house(5, 2, 4, 0, 3, 0, 4, 1, 3, 1, 4, 2, 3), lists(list(0, 1, 2), list(3, 4))},
		{house(5, 0, 4, 1, 4, 2, 4, 3, 4), lists(list(0, 1, 2, 3), list(4))},
		{everybody(8), lists(list(0), list(1), list(2), list(3), list(4), list(5), list(6), list(7))},
	} {
		three, e := threeOf(x.house)
		same(t, "Parted", three, e, list(0, 0, 0), api.OK)
		groups, e := quarrel.Groups(x.house)
		sameLists(t, "Groups", groups, e, x.groups, api.OK)
	}
}

// P12.4: Parted and Groups of other houses.
func TestOtherHouses(t *testing.T) {
	for _, x := range []struct {
		house quarrel.House
		three []int
	}{
		{house(3, 0, 1), list(0, 2, 1)},
		{house(3, 0, 2), list(0, 1, 2)},
		{house(3, 1, 2), list(1, 0, 2)},
		{house(4, 2, 3), list(2, 0, 3)},
		{house(8, 6, 7), list(6, 0, 7)},
		{house(5, 0, 1, 1, 2, 2, 3, 3, 4), list(0, 3, 1)},
		{house(5, 0, 1, 0, 2, 0, 3, 0, 4, 2, 3), list(2, 1, 3)},
		{spindle(), list(0, 3, 4)},
		{crown(), list(0, 1, 3)},
		{ring(6), list(0, 2, 5)},
	} {
		three, e := threeOf(x.house)
		same(t, "Parted", three, e, x.three, api.ErrProof)
		groups, e := quarrel.Groups(x.house)
		sameLists(t, "Groups", groups, e, nil, api.ErrClash)
	}
}

// P12.5: Copy.
func TestCopy(t *testing.T) {
	path := house(5, 3, 4, 0, 1, 2, 3, 1, 2)
	for _, x := range []struct {
		house quarrel.House
		a, b  int
		want  quarrel.House
		e     api.Errno
	}{
		{exampleH(), 2, 0, house(5, 0, 1, 0, 3, 1, 2, 2, 3, 3, 4), api.OK},
		{exampleK(), 0, 2, exampleK(), api.OK},
		{exampleK(), 3, 1, exampleK(), api.OK},
		{path, 0, 4, house(5, 0, 1, 1, 2, 1, 4, 2, 3), api.OK},
		{path, 4, 0, house(5, 0, 3, 1, 2, 2, 3, 3, 4), api.OK},
		{path, 1, 3, house(5, 0, 1, 0, 3, 1, 2, 2, 3), api.OK},
		{path, 2, 4, house(5, 0, 1, 1, 2, 1, 4, 2, 3, 3, 4), api.OK},
		{house(3, 1, 2), 0, 1, house(3), api.OK},
		{house(3, 1, 2), 1, 0, house(3, 0, 2, 1, 2), api.OK},
		{house(2), 1, 0, house(2), api.OK},
		{house(8, 6, 7), 7, 0, house(8, 0, 6, 6, 7), api.OK},
		{house(2, 0, 1), 0, 1, quarrel.House{}, api.ErrClash},
		{house(2, 0, 1), 1, 0, quarrel.House{}, api.ErrClash},
		{house(2), 1, 1, quarrel.House{}, api.ErrClash},
		{house(1), 0, 0, quarrel.House{}, api.ErrClash},
		{house(2), 0, 2, quarrel.House{}, api.ErrNone},
		{house(2), 2, 0, quarrel.House{}, api.ErrNone},
		{house(2), -1, 0, quarrel.House{}, api.ErrNone},
		{house(2), 0, -1, quarrel.House{}, api.ErrNone},
		{house(2), 2, 2, quarrel.House{}, api.ErrNone},
		{house(8), math.MinInt, math.MaxInt, quarrel.House{}, api.ErrNone},
	} {
		copied, e := quarrel.Copy(x.house, x.a, x.b)
		sameHouse(t, "Copy", copied, e, x.want, x.e)
	}
}

// P12.6: Grows.
func TestGrows(t *testing.T) {
	path := house(5, 3, 4, 0, 1, 2, 3, 1, 2)
	for _, x := range []struct {
		name   string
		house  quarrel.House
		copies [][2]int
		e      api.Errno
	}{
		{"parted at first", exampleK(), nil, api.OK},
		{"parted at last", path, pairs(1, 4, 2, 0), api.OK},
		{"a copy that changes nothing", exampleK(), pairs(0, 2), api.OK},
		{"more copies than Grow returns", exampleK(), slices.Repeat(pairs(0, 2, 2, 0), 100), api.OK},
		{"parted by one copy", house(3, 1, 2), pairs(1, 0), api.OK},
		{"not parted yet", exampleH(), pairs(0, 2), api.ErrProof},
		{"fewer quarrels", house(3, 1, 2), pairs(0, 1), api.ErrProof},
		{"fewer quarrels of four people", house(4, 0, 1, 0, 2, 0, 3, 1, 2), pairs(3, 1), api.ErrProof},
		{"as many quarrels", house(4, 0, 1, 1, 2, 2, 3), pairs(0, 3), api.OK},
		{"quarrels of the second copy", path, pairs(1, 4, 0, 1), api.ErrClash},
		{"the same person", path, pairs(1, 1), api.ErrClash},
		{"not a person", path, pairs(1, 4, 0, 5), api.ErrNone},
		{"not a person, or quarrels", path, pairs(5, 0, 0, 1), api.ErrNone},
		{"quarrels, or not a person", path, pairs(0, 1, 5, 0), api.ErrClash},
		{"a copy after all is done", path, pairs(1, 4, 2, 0, 1, 0), api.ErrClash},
		{"an error rather than no proof", exampleH(), pairs(0, 2, -1, 0), api.ErrNone},
	} {
		sameError(t, x.name, quarrel.Grows(x.house, x.copies), x.e)
	}
}

// P12.6: what Grow returns is accepted by Grows.
func TestGrow(t *testing.T) {
	for _, h := range []quarrel.House{exampleH(), exampleK(), crown(), spindle(), house(1), house(8), house(8, 6, 7), ring(6), ring(7), ring(8), everybody(8)} {
		copies, e := quarrel.Grow(h)
		if e != api.OK || len(copies) > 100 || quarrel.Grows(h, copies) != api.OK {
			t.Errorf("Grow of %v: %v %d", h, copies, e)
		}
	}
}

// P12.7: Most, and Even, which has as many quarrels.
func TestMost(t *testing.T) {
	for i, most := range lists(
		list(0, 0, 0, 0, 0, 0, 0, 0),
		list(0, 1, 1, 1, 1, 1, 1, 1),
		list(0, 2, 3, 3, 3, 3, 3, 3),
		list(0, 4, 5, 6, 6, 6, 6, 6),
		list(0, 6, 8, 9, 10, 10, 10, 10),
		list(0, 9, 12, 13, 14, 15, 15, 15),
		list(0, 12, 16, 18, 19, 20, 21, 21),
		list(0, 16, 21, 24, 25, 26, 27, 28),
	) {
		for j, wanted := range most {
			n, e := quarrel.Most(i+1, j+1)
			sameNumber(t, "Most", n, e, wanted, api.OK)
			h, e := quarrel.Even(i+1, j+1)
			sameNumber(t, "Even", len(h.Quarrels), e, wanted, api.OK)
		}
	}
	for _, x := range lists(list(0, 1), list(1, 0), list(9, 1), list(1, 9), list(-1, -1), list(9, 9), list(math.MinInt, 2), list(2, math.MaxInt)) {
		n, e := quarrel.Most(x[0], x[1])
		sameNumber(t, "Most out of bounds", n, e, 0, api.ErrRange)
		h, e := quarrel.Even(x[0], x[1])
		sameHouse(t, "Even out of bounds", h, e, quarrel.House{}, api.ErrRange)
	}
}

// P12.7: Even.
func TestEven(t *testing.T) {
	for _, x := range []struct {
		people, groups int
		want           quarrel.House
	}{
		{1, 1, house(1)},
		{1, 8, house(1)},
		{2, 1, house(2)},
		{2, 2, house(2, 0, 1)},
		{8, 1, house(8)},
		{3, 8, everybody(3)},
		{8, 8, everybody(8)},
		{4, 2, house(4, 0, 1, 0, 3, 1, 2, 2, 3)},
		{4, 3, house(4, 0, 1, 0, 2, 1, 2, 1, 3, 2, 3)},
		{6, 3, house(6, 0, 1, 0, 2, 0, 4, 0, 5, 1, 2, 1, 3, 1, 5, 2, 3, 2, 4, 3, 4, 3, 5, 4, 5)},
	} {
		h, e := quarrel.Even(x.people, x.groups)
		sameHouse(t, "Even", h, e, x.want, api.OK)
	}
}

package quarrel_test

// P12.8 to P12.14, and with them F2, F3, F4, F5 and F7 for this layer. It writes nothing and has no numbers for
// anything (F6), and no books (F8).

import (
	"math/bits"
	"slices"
	"testing"

	"aigrette/api"
	"aigrette/quarrel"
)

// checked returns what a call returns, which must not be an error.
func checked[T any](t *testing.T, name string) func(result T, e api.Errno) T {
	return func(result T, e api.Errno) T {
		t.Helper()
		if e != api.OK {
			t.Fatalf("%s: %d", name, e)
		}
		return result
	}
}

// largest returns how many people the brawl of a house has.
func largest(t *testing.T, h quarrel.House) int {
	t.Helper()
	return len(checked[[]int](t, "Brawl")(quarrel.Brawl(h)))
}

// roomCount returns how many rooms a house needs.
func roomCount(t *testing.T, h quarrel.House) int {
	t.Helper()
	return slices.Max(checked[[]int](t, "Rooms")(quarrel.Rooms(h))) + 1
}

func mostOf(t *testing.T, people, brawl int) int {
	t.Helper()
	return checked[int](t, "Most")(quarrel.Most(people, brawl))
}

func evenOf(t *testing.T, people, groups int) quarrel.House {
	t.Helper()
	return checked[quarrel.House](t, "Even")(quarrel.Even(people, groups))
}

// P12.8, F3: the even house has no larger brawl, and Most quarrels.
func TestEvenHasMost(t *testing.T) {
	for people := 1; people <= 8; people++ {
		for groups := 1; groups <= 8; groups++ {
			h := evenOf(t, people, groups)
			if size := largest(t, h); size != min(people, groups) || size != largestOf(h) {
				t.Errorf("P12.8: Brawl of Even of %d, %d: %d", people, groups, size)
			}
			sameNumber(t, "P12.8: Most", mostOf(t, people, groups), api.OK, len(h.Quarrels), api.OK)
		}
	}
}

// checkEven checks that a house is parted, with so many groups whose sizes differ by at most one.
func checkEven(t *testing.T, h quarrel.House, wanted int) {
	t.Helper()
	_, _, _, e := quarrel.Parted(h)
	groups, _ := quarrel.Groups(h)
	var sizes []int
	for _, group := range groups {
		sizes = append(sizes, len(group))
	}
	if e != api.OK || len(groups) != wanted || slices.Max(sizes)-slices.Min(sizes) > 1 {
		t.Errorf("P12.8: %v: %d %v", h, e, groups)
	}
}

// P12.8: houses with as many quarrels, of all houses of up to six people.
func TestMostAreEven(t *testing.T) {
	for people := 1; people <= 6; people++ {
		housesOf(people, func(h quarrel.House) {
			if brawl := largest(t, h); len(h.Quarrels) == mostOf(t, people, brawl) {
				checkEven(t, h, brawl)
			} else if len(h.Quarrels) > mostOf(t, people, brawl) {
				t.Errorf("P12.8: %v", h)
			}
		})
	}
}

// largestOfSets returns how many people the largest brawl among each set of people has, if the first ones among
// them quarrel as they do in before, and the next one with a set of them.
func largestOfSets(before []int, with uint) []int {
	after := slices.Clone(before)
	for set := range before {
		after = append(after, max(before[set], before[uint(set)&with]+1))
	}
	return after
}

// P12.8, F3: of all houses of seven people, in which the first six of them quarrel as in each house of six.
func TestMostOfSevenAreEven(t *testing.T) {
	var most [9]int
	for brawl := 1; brawl <= 8; brawl++ {
		most[brawl] = mostOf(t, 7, brawl)
	}
	housesOf(6, func(h quarrel.House) {
		var quarrels [6]uint
		for _, pair := range h.Quarrels {
			quarrels[pair[1]] |= 1 << pair[0]
		}
		sets := list(0)
		for _, with := range quarrels {
			sets = largestOfSets(sets, with)
		}
		for with := range uint(64) {
			count := len(h.Quarrels) + bits.OnesCount(with)
			brawl := max(sets[63], sets[with]+1)
			if count > most[brawl] {
				t.Fatalf("P12.8: %v and one with %b", h, with)
			}
			if count == most[brawl] {
				checkEven(t, withOne(h, with), brawl)
			}
		}
	})
}

// withOne returns a house with one more person, who quarrels with a set of the others.
func withOne(h quarrel.House, with uint) quarrel.House {
	more := quarrel.House{People: h.People + 1, Quarrels: slices.Clone(h.Quarrels)}
	for person := range h.People {
		if with>>person&1 == 1 {
			more.Quarrels = append(more.Quarrels, [2]int{person, h.People})
		}
	}
	return more
}

// P12.8: of houses of eight people. The one who quarrels least often does so at most as often as all do on an
// average; if that is what Most of eight has more than Most of seven, then without this one a house with Most
// quarrels has Most quarrels, too, and is even but for names.
func TestMostOfEightAreEven(t *testing.T) {
	for brawl := 1; brawl <= 7; brawl++ {
		most, fewer := mostOf(t, 8, brawl), mostOf(t, 7, brawl)
		if 2*most/8 != most-fewer {
			t.Errorf("P12.8: %d quarrels of eight people, %d of seven", most, fewer)
		}
		found := 0
		for with := range uint(128) {
			h := withOne(evenOf(t, 7, brawl), with)
			if size := largest(t, h); len(h.Quarrels) == most && size <= brawl {
				found++
				checkEven(t, h, brawl)
			}
		}
		if found == 0 {
			t.Errorf("P12.8: no house with %d quarrels", most)
		}
	}
	checkEven(t, evenOf(t, 8, 8), 8)
}

// P12.9: copies of all houses of up to five people, and drawn ones.
func TestCopiesMakeNoLargerBrawl(t *testing.T) {
	someHouses(func(h quarrel.House) {
		often := checked[[]int](t, "Often")(quarrel.Often(h))
		before := largest(t, h)
		for a := range h.People {
			for b := range h.People {
				after, e := quarrel.Copy(h, a, b)
				if e != api.OK {
					continue
				}
				if largest(t, after) > before {
					t.Errorf("P12.9: %v: %d by %d: a larger brawl", h, a, b)
				}
				if often[a] >= often[b] && len(after.Quarrels) < len(h.Quarrels) {
					t.Errorf("P12.9: %v: %d by %d: fewer quarrels", h, a, b)
				}
				if len(after.Quarrels)-len(h.Quarrels) != often[a]-often[b] {
					t.Errorf("F2: %v: %d by %d: %v", h, a, b, after)
				}
			}
		}
	})
}

// P12.6, P12.9, F7: the house that Grow leads to is parted, has no fewer quarrels, and no larger brawl.
func TestGrowLeadsToGroups(t *testing.T) {
	someHouses(func(h quarrel.House) {
		after := h
		for _, pair := range checked[[][2]int](t, "Grow")(quarrel.Grow(h)) {
			after = checked[quarrel.House](t, "Copy")(quarrel.Copy(after, pair[0], pair[1]))
		}
		_, _, _, e := quarrel.Parted(after)
		if e != api.OK || len(after.Quarrels) < len(h.Quarrels) || largest(t, after) > largest(t, h) {
			t.Errorf("P12.6: %v: %v", h, after)
		}
		if len(after.Quarrels) > mostOf(t, h.People, largest(t, h)) {
			t.Errorf("P12.7: %v: %v", h, after)
		}
	})
}

// P12.10, F3: how many rooms there are.
func TestRoomsBetween(t *testing.T) {
	someHouses(func(h quarrel.House) {
		rooms, brawl := roomCount(t, h), largest(t, h)
		often := checked[[]int](t, "Often")(quarrel.Often(h))
		if rooms < brawl || rooms > slices.Max(often)+1 {
			t.Errorf("P12.10: %v: %d rooms", h, rooms)
		}
		if groups, e := quarrel.Groups(h); e == api.OK && (rooms != len(groups) || rooms != brawl) {
			t.Errorf("P12.10: %v: %d rooms, %v", h, rooms, groups)
		}
	})
}

// P12.10: for parted houses of more people.
func TestRoomsOfPartedHouses(t *testing.T) {
	for people := 6; people <= 8; people++ {
		for _, l := range listsOf(people-1, numbersFrom(0, 2)...) {
			h := house(people)
			for _, pair := range allPairs(people) {
				if append(l, 0)[pair[0]] != append(l, 0)[pair[1]] {
					h.Quarrels = append(h.Quarrels, pair)
				}
			}
			groups := checked[[][]int](t, "Groups")(quarrel.Groups(h))
			if rooms := roomCount(t, h); rooms != len(groups) || rooms != largest(t, h) {
				t.Errorf("P12.10: %v: %d rooms, %v", h, rooms, groups)
			}
		}
	}
}

// P12.11: 840 can be divided by all numbers of people.
func TestCaroAndWei(t *testing.T) {
	someHouses(func(h quarrel.House) {
		sum := 0
		for _, often := range checked[[]int](t, "Often")(quarrel.Often(h)) {
			sum += 840 / (h.People - often)
		}
		if sum > 840*largest(t, h) {
			t.Errorf("P12.11: %v: %d/840", h, sum)
		}
	})
}

// countOf returns the numbers of brawls of all sizes from 1 on.
func countOf(t *testing.T, h quarrel.House) []int {
	t.Helper()
	var counts []int
	for size := 1; size <= 8; size++ {
		counts = append(counts, checked[int](t, "Count")(quarrel.Count(h, size)))
	}
	return counts
}

// P12.12, F2: Count and Often.
func TestCounts(t *testing.T) {
	someHouses(func(h quarrel.House) {
		counts := countOf(t, h)
		sum := 0
		for _, often := range checked[[]int](t, "Often")(quarrel.Often(h)) {
			sum += often
		}
		if counts[0] != h.People || counts[1] != len(h.Quarrels) || sum != 2*len(h.Quarrels) {
			t.Errorf("P12.12: %v: %v, %d", h, counts, sum)
		}
		for i, count := range counts {
			if (count > 0) != (i+1 <= largest(t, h)) {
				t.Errorf("P12.12: %v: %v", h, counts)
			}
		}
	})
}

// renamed returns a house with other names of its people, and its quarrels in another order.
func renamed(h quarrel.House, names []int, draw func(bound int) int) quarrel.House {
	other := house(h.People)
	for _, pair := range h.Quarrels {
		one, two := names[pair[0]], names[pair[1]]
		at := draw(len(other.Quarrels) + 1)
		other.Quarrels = slices.Insert(other.Quarrels, at, [2]int{min(one, two), max(one, two)})
	}
	return other
}

// drawnOrder returns the numbers from 0 on in an order that looks as if it was drawn.
func drawnOrder(draw func(bound int) int, count int) []int {
	var order []int
	for number := range count {
		order = slices.Insert(order, draw(number+1), number)
	}
	return order
}

// P12.13, F5: other names of people, and quarrels in another order.
func TestOtherNames(t *testing.T) {
	draw := seeds(5)
	someHouses(func(h quarrel.House) {
		names := drawnOrder(draw, h.People)
		other := renamed(h, names, draw)
		if largest(t, h) != largest(t, other) || !slices.Equal(countOf(t, h), countOf(t, other)) || roomCount(t, h) != roomCount(t, other) {
			t.Errorf("P12.13: %v, %v", h, other)
		}
		_, _, _, one := quarrel.Parted(h)
		_, _, _, two := quarrel.Parted(other)
		sameError(t, "P12.13: Parted", one, two)
		often, oftenOther := checked[[]int](t, "Often")(quarrel.Often(h)), checked[[]int](t, "Often")(quarrel.Often(other))
		for person, name := range names {
			if often[person] != oftenOther[name] {
				t.Errorf("F5: Often of %v: %v, of %v: %v", h, often, other, oftenOther)
			}
		}
	})
}

// P12.13, F5: with the quarrels in another order alone, all results stay, as nobody has another name.
func TestOtherOrder(t *testing.T) {
	draw := seeds(7)
	someHouses(func(h quarrel.House) {
		other := renamed(h, numbersFrom(0, h.People-1), draw)
		for _, one := range []func(h quarrel.House) ([]int, api.Errno){quarrel.Often, quarrel.Brawl, quarrel.Rooms, threeOf} {
			want, wanted := one(h)
			got, e := one(other)
			same(t, "F5: another order", got, e, want, wanted)
		}
		want, wanted := quarrel.Groups(h)
		got, e := quarrel.Groups(other)
		sameLists(t, "F5: another order", got, e, want, wanted)
		a, b := draw(h.People), draw(h.People)
		house, wanted := quarrel.Copy(h, a, b)
		again, e := quarrel.Copy(other, a, b)
		sameHouse(t, "F5: another order", again, e, house, wanted)
	})
}

// P12.14, F7: without one of its quarrels.
func TestOneQuarrelLess(t *testing.T) {
	someHouses(func(h quarrel.House) {
		brawl, rooms, counts := largest(t, h), roomCount(t, h), countOf(t, h)
		for i := range h.Quarrels {
			less := quarrel.House{People: h.People, Quarrels: slices.Delete(slices.Clone(h.Quarrels), i, i+1)}
			if largest(t, less) > brawl || roomCount(t, less) > rooms {
				t.Errorf("P12.14: %v without %v", h, h.Quarrels[i])
			}
			for size, count := range countOf(t, less) {
				if count > counts[size] {
					t.Errorf("P12.14: %v without %v: %d of %d", h, h.Quarrels[i], count, size+1)
				}
			}
		}
	})
}

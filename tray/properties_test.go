package tray_test

// P8.9 to P8.14, and with them F1 to F7 for this layer.

import (
	"slices"
	"testing"

	"aigrette/api"
	"aigrette/tray"
)

func orders(t *testing.T, s tray.Shelf) int {
	t.Helper()
	n, e := tray.Orders(s)
	if e != api.OK {
		t.Fatalf("Orders of %v: %d", s, e)
	}
	return n
}

func shadow(t *testing.T, s tray.Shelf) [][]int {
	t.Helper()
	l, e := tray.Shadow(s)
	if e != api.OK {
		t.Fatalf("Shadow of %v: %d", s, e)
	}
	return l
}

func shade(t *testing.T, s tray.Shelf) [][]int {
	t.Helper()
	l, e := tray.Shade(s)
	if e != api.OK {
		t.Fatalf("Shade of %v: %d", s, e)
	}
	return l
}

func chains(t *testing.T, dyes int) [][][]int {
	t.Helper()
	c, e := tray.Chains(dyes)
	if e != api.OK {
		t.Fatalf("Chains of %d: %d", dyes, e)
	}
	return c
}

func most(t *testing.T, dyes int) int {
	t.Helper()
	n, e := tray.Most(dyes)
	if e != api.OK {
		t.Fatalf("Most of %d: %d", dyes, e)
	}
	return n
}

func lean(t *testing.T, dyes, size, trays int) int {
	t.Helper()
	n, e := tray.Lean(dyes, size, trays)
	if e != api.OK {
		t.Fatalf("Lean of %d, %d, %d: %d", dyes, size, trays, e)
	}
	return n
}

// allNth returns all trays with as many dyes, in the order of their numbers.
func allNth(t *testing.T, dyes, size int) [][]int {
	t.Helper()
	var trays [][]int
	for {
		l, e := tray.Nth(dyes, size, len(trays))
		if e != api.OK {
			sameError(t, "Nth behind the last tray", e, api.ErrNone)
			return trays
		}
		trays = append(trays, l)
	}
}

// isApart tells whether no tray of a shelf contains another one.
func isApart(s tray.Shelf) bool {
	_, _, e := tray.Contained(s)
	return e == api.ErrLost
}

// apart returns shelves of which no tray contains another one.
func apart() []tray.Shelf {
	shelves := slices.DeleteFunc(someShelves(), func(s tray.Shelf) bool { return !isApart(s) })
	for seed := range 300 {
		draw := seeds(seed)
		dyes := 3 + draw(4)
		s := shelf(dyes)
		for _, one := range shuffled(draw, allTrays(dyes)) {
			if more := shelf(dyes, append(slices.Clone(s.Trays), one)...); isApart(more) {
				s = more
			}
		}
		shelves = append(shelves, s)
	}
	return shelves
}

// P8.9, F1, F2.
func TestEachTrayIsInOneChain(t *testing.T) {
	for dyes := 1; dyes <= 6; dyes++ {
		var in [][]int
		for _, chain := range chains(t, dyes) {
			in = append(in, chain...)
			for i, one := range chain {
				if i > 0 && (len(one) != len(chain[i-1])+1 || !contains(one, chain[i-1])) {
					t.Errorf("P8.9: chain %v", chain)
				}
				c, e := tray.Chain(dyes, one...)
				sameTrays(t, "P8.9: Chain", c, e, chain, api.OK)
			}
			if len(chain[0])+len(chain[len(chain)-1]) != dyes {
				t.Errorf("P8.9: chain %v of %d dyes", chain, dyes)
			}
		}
		slices.SortFunc(in, slices.Compare[[]int])
		sameTrays(t, "P8.9: the trays of all Chains", in, api.OK, allTrays(dyes), api.OK)
	}
}

// P8.9: along a chain the free dyes stay the same, and are put in one after the other.
func TestFreeDyesOfChain(t *testing.T) {
	for dyes := 1; dyes <= 6; dyes++ {
		for _, chain := range chains(t, dyes) {
			free, e := tray.Free(dyes, chain[0]...)
			if e != api.OK || len(free) != len(chain)-1 {
				t.Fatalf("Free of %v: %v %d, chain %v", chain[0], free, e, chain)
			}
			for i, one := range chain {
				l, e := tray.Free(dyes, one...)
				same(t, "Free", l, e, free, api.OK)
				want := append(slices.Clone(chain[0]), free[:i]...)
				slices.Sort(want)
				same(t, "a tray of the chain", one, api.OK, want, api.OK)
			}
		}
	}
}

// P8.10, F3, F4: the trays with half of the dyes have Most trays.
func TestMostIsReached(t *testing.T) {
	for dyes := 1; dyes <= 6; dyes++ {
		half := shelf(dyes, allNth(t, dyes, dyes/2)...)
		sameContained(t, half, 0, 0, api.ErrLost)
		if n := most(t, dyes); n != len(half.Trays) || n != len(chains(t, dyes)) {
			t.Errorf("P8.10: Most of %d: %d, %d with half of the dyes, %d chains", dyes, n, len(half.Trays), len(chains(t, dyes)))
		}
	}
}

// P8.10, F3, F4: a shelf has at most one tray of each chain, or one of both contains the other one.
func TestOneTrayOfEachChain(t *testing.T) {
	for dyes := 1; dyes <= 6; dyes++ {
		for _, chain := range chains(t, dyes) {
			for i := range chain {
				for j := range i {
					sameContained(t, shelf(dyes, chain[i], chain[j]), 1, 0, api.OK)
				}
			}
		}
	}
	for _, s := range apart() {
		if len(s.Trays) > most(t, s.Dyes) {
			t.Errorf("P8.10: %v has more than Most trays", s)
		}
		for _, chain := range chains(t, s.Dyes) {
			in := 0
			for _, one := range chain {
				if slices.ContainsFunc(s.Trays, func(other []int) bool { return slices.Equal(one, other) }) {
					in++
				}
			}
			if in > 1 {
				t.Errorf("P8.10: %v has %d trays of %v", s, in, chain)
			}
		}
	}
}

func factorial(n int) int {
	product := 1
	for i := range n {
		product *= i + 1
	}
	return product
}

// P8.11.
func TestOrdersOfShelvesApart(t *testing.T) {
	for _, s := range apart() {
		sum := 0
		for _, one := range s.Trays {
			sum += factorial(len(one)) * factorial(s.Dyes-len(one))
		}
		if n := orders(t, s); n != sum || n > factorial(s.Dyes) {
			t.Errorf("P8.11: Orders of %v: %d, want %d", s, n, sum)
		}
	}
}

// P8.11, F2: otherwise no order is counted twice.
func TestOrdersOfChains(t *testing.T) {
	for dyes := 1; dyes <= 6; dyes++ {
		for _, chain := range chains(t, dyes) {
			some := 0
			for i := range chain {
				// Of the orders that pass this tray, those that pass an earlier one of the chain are in already.
				some += factorial(len(chain[i])) * factorial(dyes-len(chain[i]))
				if n := orders(t, shelf(dyes, chain[:i+1]...)); n > some || i == 0 && n != some || n > factorial(dyes) {
					t.Errorf("P8.11: Orders of %v: %d, at most %d", chain[:i+1], n, some)
				}
			}
		}
	}
}

// P8.12, F3.
func TestFirstTraysHaveLeanShadow(t *testing.T) {
	for dyes := 1; dyes <= 6; dyes++ {
		for size := range dyes + 1 {
			all := allNth(t, dyes, size)
			for trays := range len(all) + 1 {
				n := lean(t, dyes, size, trays)
				if l := shadow(t, shelf(dyes, all[:trays]...)); len(l) != n {
					t.Errorf("P8.12: Lean of %d, %d, %d: %d, but %v", dyes, size, trays, n, l)
				}
				for seed := range 20 {
					other := shelf(dyes, shuffled(seeds(seed), all)[:trays]...)
					if l := shadow(t, other); len(l) < n {
						t.Errorf("P8.12: Lean of %d, %d, %d: %d, but %v of %v", dyes, size, trays, n, l, other)
					}
				}
			}
		}
	}
}

// lacking returns the shelf with each tray replaced by the dyes that it lacks.
func lacking(s tray.Shelf) tray.Shelf {
	other := shelf(s.Dyes)
	for _, one := range s.Trays {
		var lacks []int
		for dye := range s.Dyes {
			if !slices.Contains(one, dye) {
				lacks = append(lacks, dye)
			}
		}
		other.Trays = append(other.Trays, lacks)
	}
	return other
}

// P8.13: the trays replaced by what they lack.
func TestLackingTrays(t *testing.T) {
	for _, s := range someShelves() {
		other := lacking(s)
		if isApart(s) != isApart(other) {
			t.Errorf("P8.13: Contained of %v and of %v", s, other)
		}
		if inner, outer, e := tray.Contained(s); e == api.OK {
			sameContained(t, lacking(shelf(s.Dyes, s.Trays[inner], s.Trays[outer])), 1, 0, api.OK)
		}
		for _, turned := range [][2][][]int{{shadow(t, other), shade(t, s)}, {shade(t, other), shadow(t, s)}} {
			want := lacking(shelf(s.Dyes, turned[1]...)).Trays
			slices.SortFunc(want, slices.Compare[[]int])
			sameTrays(t, "P8.13: shadow and shade", turned[0], api.OK, want, api.OK)
		}
		if orders(t, s) != orders(t, other) {
			t.Errorf("P8.13: Orders of %v and of %v", s, other)
		}
	}
}

// named returns the trays with other names of the dyes.
func named(trays [][]int, names []int) [][]int {
	var other [][]int
	for _, one := range trays {
		var dyes []int
		for _, dye := range one {
			dyes = append(dyes, names[dye])
		}
		slices.Sort(dyes)
		other = append(other, dyes)
	}
	return other
}

// P8.13, F5: other names of the dyes.
func TestOtherNames(t *testing.T) {
	namings := make([][][]int, 7)
	for dyes := range namings {
		namings[dyes] = permutations(dyes)
	}
	for i, s := range someShelves() {
		n, below, above := orders(t, s), shadow(t, s), shade(t, s)
		inner, outer, e := tray.Contained(s)
		for j := range 4 {
			names := namings[s.Dyes][(i+17*j)%len(namings[s.Dyes])]
			other := shelf(s.Dyes, named(s.Trays, names)...)
			if m := orders(t, other); m != n {
				t.Errorf("P8.13: Orders of %v: %d, of %v: %d", s, n, other, m)
			}
			sameContained(t, other, inner, outer, e)
			for _, with := range [][2][][]int{{shadow(t, other), below}, {shade(t, other), above}} {
				want := named(with[1], names)
				slices.SortFunc(want, slices.Compare[[]int])
				sameTrays(t, "P8.13: other names", with[0], api.OK, want, api.OK)
			}
		}
	}
}

// F5: in which order the trays are told matters only for Contained.
func TestOtherOrder(t *testing.T) {
	for i, s := range someShelves() {
		other := shelf(s.Dyes, shuffled(seeds(i), s.Trays)...)
		sameTrays(t, "F5: Shadow", shadow(t, other), api.OK, shadow(t, s), api.OK)
		sameTrays(t, "F5: Shade", shade(t, other), api.OK, shade(t, s), api.OK)
		if orders(t, other) != orders(t, s) || isApart(other) != isApart(s) {
			t.Errorf("F5: Orders or Contained of %v, and of %v", s, other)
		}
	}
}

// isPart tells whether all of some trays are among others.
func isPart(some, others [][]int) bool {
	return !slices.ContainsFunc(some, func(one []int) bool {
		return !slices.ContainsFunc(others, func(other []int) bool { return slices.Equal(one, other) })
	})
}

// P8.14, F7.
func TestMoreTrays(t *testing.T) {
	for i, s := range someShelves() {
		n, below, above := orders(t, s), shadow(t, s), shade(t, s)
		for j, one := range allTrays(s.Dyes) {
			more := shelf(s.Dyes, append(slices.Clone(s.Trays), one)...)
			if (i+j)%3 != 0 || tray.Check(more) != api.OK {
				continue
			}
			if orders(t, more) < n || !isPart(below, shadow(t, more)) || !isPart(above, shade(t, more)) {
				t.Errorf("P8.14: %v, and with %v", s, one)
			}
			if !isApart(s) && isApart(more) {
				t.Errorf("F7: Contained of %v, and with %v", s, one)
			}
		}
	}
}

// P8.14, F6.
func TestThereAndBack(t *testing.T) {
	for dyes := 1; dyes <= 6; dyes++ {
		found := 0
		for size := range dyes + 1 {
			for number, one := range allNth(t, dyes, size) {
				n, e := tray.Number(dyes, one...)
				sameNumber(t, "P8.14: Number of Nth", n, e, number, api.OK)
				found++
			}
		}
		if found != 1<<dyes {
			t.Errorf("P8.14: Nth of %d dyes: %d trays", dyes, found)
		}
		for _, one := range allTrays(dyes) {
			n, e := tray.Number(dyes, one...)
			sameError(t, "Number", e, api.OK)
			l, e := tray.Nth(dyes, len(one), n)
			same(t, "P8.14: Nth of Number", l, e, one, api.OK)
		}
	}
}

// F7: with more dyes there are at least as many trays, the numbers of trays stay, and no shadow becomes
// smaller or larger by dyes that are not used.
func TestMoreDyes(t *testing.T) {
	for dyes := 1; dyes < 6; dyes++ {
		if most(t, dyes) > most(t, dyes+1) {
			t.Errorf("F7: Most of %d: %d, of one more: %d", dyes, most(t, dyes), most(t, dyes+1))
		}
		for size := range dyes + 1 {
			for number, one := range allNth(t, dyes, size) {
				l, e := tray.Nth(dyes+1, size, number)
				same(t, "F7: Nth", l, e, one, api.OK)
				if lean(t, dyes, size, number+1) != lean(t, dyes+1, size, number+1) || lean(t, dyes, size, number) > lean(t, dyes, size, number+1) {
					t.Errorf("F7: Lean of %d, %d, %d", dyes, size, number)
				}
			}
		}
	}
}

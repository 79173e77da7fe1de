package tray_test

// All results compared with what the chapter's definitions alone say.

import (
	"slices"
	"testing"

	"aigrette/api"
	"aigrette/tray"
)

// allTrays returns all trays of so many dyes, in ascending order.
func allTrays(dyes int) [][]int {
	trays := lists(nil)
	for dye := range dyes {
		for _, tray := range slices.Clone(trays) {
			trays = append(trays, append(slices.Clone(tray), dye))
		}
	}
	slices.SortFunc(trays, slices.Compare[[]int])
	return trays
}

// withSize returns the trays with as many dyes.
func withSize(trays [][]int, size int) [][]int {
	return slices.DeleteFunc(slices.Clone(trays), func(tray []int) bool { return len(tray) != size })
}

// contains tells whether a tray contains another one.
func contains(outer, inner []int) bool {
	if slices.Equal(outer, inner) {
		return false
	}
	for _, dye := range inner {
		if !slices.Contains(outer, dye) {
			return false
		}
	}
	return true
}

// permutations returns all orders of the numbers from 0 on.
func permutations(count int) [][]int {
	orders := lists(nil)
	for number := range count {
		var longer [][]int
		for _, order := range orders {
			for place := range len(order) + 1 {
				longer = append(longer, slices.Insert(slices.Clone(order), place, number))
			}
		}
		orders = longer
	}
	return orders
}

// seeds returns numbers that look as if they were drawn.
func seeds(seed int) func(bound int) int {
	state := uint32(seed*7919 + 17)
	return func(bound int) int {
		state = state*1664525 + 1013904223
		return int(state>>16) % bound
	}
}

// shuffled returns a list in an order that looks as if it was drawn.
func shuffled[T any](draw func(bound int) int, l []T) []T {
	l = slices.Clone(l)
	for i := len(l) - 1; i > 0; i-- {
		j := draw(i + 1)
		l[i], l[j] = l[j], l[i]
	}
	return l
}

// drawn returns a shelf that looks as if it was drawn.
func drawn(seed int) tray.Shelf {
	draw := seeds(seed)
	dyes := 4 + draw(3)
	trays := allTrays(dyes)
	switch draw(3) {
	case 0:
		trays = withSize(trays, draw(dyes+1))
	case 1:
		size := 1 + draw(dyes-1)
		trays = append(withSize(trays, size), withSize(trays, size+1)...)
	}
	trays = shuffled(draw, trays)
	return shelf(dyes, trays[:draw(1+min(len(trays), 1+draw(24)))]...)
}

// mix returns the place of a bit so that different shelves have their trays in different orders.
func mix(place, bits, shelf int) int {
	return (place*[]int{1, 3, 5, 7}[shelf%4] + shelf/4) % bits
}

// smallShelves returns all shelves of up to three dyes, each with its trays in one order.
func smallShelves() []tray.Shelf {
	var shelves []tray.Shelf
	for dyes := 1; dyes <= 3; dyes++ {
		all := allTrays(dyes)
		for number := range 1 << len(all) {
			s := shelf(dyes)
			for i := range all {
				if place := mix(i, len(all), number); number>>place&1 == 1 {
					s.Trays = append(s.Trays, all[place])
				}
			}
			shelves = append(shelves, s)
		}
	}
	return shelves
}

// ordered returns all shelves of so many dyes with up to so many trays, in all orders of them.
func ordered(dyes, most int) []tray.Shelf {
	shelves := []tray.Shelf{shelf(dyes)}
	for i := 0; i < len(shelves); i++ {
		if len(shelves[i].Trays) == most {
			continue
		}
		for _, one := range allTrays(dyes) {
			if before := shelves[i].Trays; !slices.ContainsFunc(before, func(other []int) bool { return slices.Equal(one, other) }) {
				shelves = append(shelves, shelf(dyes, append(slices.Clone(before), one)...))
			}
		}
	}
	return shelves
}

// someShelves returns all small shelves, and larger ones.
func someShelves() []tray.Shelf {
	shelves := slices.Concat(smallShelves(), ordered(2, 4), ordered(3, 3), ordered(4, 2), ordered(6, 1))
	for seed := range 1000 {
		shelves = append(shelves, drawn(seed))
	}
	for dyes := 4; dyes <= 6; dyes++ {
		shelves = append(shelves, shelf(dyes, allTrays(dyes)...))
	}
	return shelves
}

// listsOf returns all lists of up to so many numbers, from first to last.
func listsOf(length, first, last int) [][]int {
	all := lists(nil)
	for i := 0; i < len(all); i++ {
		if len(all[i]) == length {
			continue
		}
		for number := first; number <= last; number++ {
			all = append(all, append(slices.Clone(all[i]), number))
		}
	}
	return all
}

// errorOf returns the error of a shelf.
func errorOf(s tray.Shelf) api.Errno {
	if s.Dyes < 1 || s.Dyes > 6 {
		return api.ErrRange
	}
	for i, one := range s.Trays {
		for j := range one {
			switch {
			case one[j] < 0 || one[j] > s.Dyes-1:
				return api.ErrNone
			case j > 0 && one[j] <= one[j-1]:
				return api.ErrOrder
			}
		}
		for _, before := range s.Trays[:i] {
			if slices.Equal(before, one) {
				return api.ErrTwice
			}
		}
	}
	return api.OK
}

// P8.1: all shelves of up to two trays of small numbers, and one tray with more of them.
func TestCheckOfAllShelves(t *testing.T) {
	for dyes := -1; dyes <= 8; dyes++ {
		small := listsOf(2, -1, 3)
		for _, one := range small {
			for _, other := range small {
				checkCheck(t, shelf(dyes, one, other))
				checkCheck(t, shelf(dyes, other, one, one))
			}
		}
		for _, one := range listsOf(4, -1, min(max(dyes, 0), 6)) {
			checkCheck(t, shelf(dyes, one))
		}
	}
	for _, s := range someShelves() {
		checkCheck(t, s)
		for i := range s.Trays {
			checkCheck(t, shelf(s.Dyes, append(slices.Clone(s.Trays), s.Trays[i])...))
			checkCheck(t, shelf(s.Dyes-1, s.Trays...))
		}
	}
}

// checkCheck compares Check.
func checkCheck(t *testing.T, s tray.Shelf) {
	t.Helper()
	if e, wanted := tray.Check(s), errorOf(s); e != wanted {
		t.Errorf("Check of %v: %d, want %d", s, e, wanted)
	}
}

// P8.2.
func TestContainedOfAllShelves(t *testing.T) {
	for _, s := range someShelves() {
		var pairs [][]int
		for i, inner := range s.Trays {
			for j, outer := range s.Trays {
				if contains(outer, inner) {
					pairs = append(pairs, list(i, j))
				}
			}
		}
		if len(pairs) == 0 {
			sameContained(t, s, 0, 0, api.ErrLost)
			continue
		}
		smallest := slices.MinFunc(pairs, slices.Compare[[]int])
		sameContained(t, s, smallest[0], smallest[1], api.OK)
	}
}

// P8.3: all shelves of up to four dyes; for more of them Most is proved by P8.10.
func TestMostOfAllShelves(t *testing.T) {
	for dyes := 1; dyes <= 4; dyes++ {
		most := 0
		var grow func(shelf, left [][]int)
		grow = func(shelf, left [][]int) {
			most = max(most, len(shelf))
			for i, one := range left {
				if !slices.ContainsFunc(shelf, func(other []int) bool { return contains(one, other) || contains(other, one) }) {
					grow(append(slices.Clone(shelf), one), left[i+1:])
				}
			}
		}
		grow(nil, allTrays(dyes))
		n, e := tray.Most(dyes)
		sameNumber(t, "Most", n, e, most, api.OK)
	}
}

// bound is which dyes are bound, and which of these are in the tray.
type bound struct{ is, in [tray.MaxDyes]bool }

// boundOf returns what is bound: a dye that opens a bracket and one that closes it, if all dyes between them
// are bound.
func boundOf(dyes int, one []int) bound {
	var b bound
	for length := 2; length <= dyes; length++ {
		for left := range dyes - length + 1 {
			right := left + length - 1
			between := b.is[left+1 : right]
			if !b.is[left] && !b.is[right] && !slices.Contains(between, false) && !slices.Contains(one, left) && slices.Contains(one, right) {
				b.is[left], b.is[right], b.in[right] = true, true, true
			}
		}
	}
	return b
}

// freeOf returns the free dyes of a tray.
func freeOf(dyes int, one []int) []int {
	var free []int
	b := boundOf(dyes, one)
	for dye := range dyes {
		if !b.is[dye] {
			free = append(free, dye)
		}
	}
	return free
}

// chainWith returns the chain of a tray: all trays in which the same is bound, and which have the first ones
// of the free dyes.
func chainWith(dyes int, one []int) [][]int {
	b, free := boundOf(dyes, one), freeOf(dyes, one)
	chain := slices.DeleteFunc(allTrays(dyes), func(other []int) bool {
		var have []int
		for dye := range dyes {
			switch {
			case !b.is[dye] && slices.Contains(other, dye):
				have = append(have, dye)
			case b.is[dye] && slices.Contains(other, dye) != b.in[dye]:
				return true
			}
		}
		return !slices.Equal(have, free[:len(have)])
	})
	slices.SortFunc(chain, func(a, b []int) int { return len(a) - len(b) })
	return chain
}

// P8.4.
func TestChainOfAllTrays(t *testing.T) {
	for dyes := 1; dyes <= 6; dyes++ {
		var chains [][][]int
		for _, one := range allTrays(dyes) {
			chain := chainWith(dyes, one)
			if slices.Equal(chain[0], one) {
				chains = append(chains, chain)
			}
			l, e := tray.Free(dyes, one...)
			same(t, "Free", l, e, freeOf(dyes, one), api.OK)
			c, e := tray.Chain(dyes, one...)
			sameTrays(t, "Chain", c, e, chain, api.OK)
		}
		c, e := tray.Chains(dyes)
		sameChains(t, "Chains", c, e, chains, api.OK)
	}
}

// passes tells whether an order passes a tray of a shelf.
func passes(order []int, trays [][]int) bool {
	return slices.ContainsFunc(trays, func(one []int) bool {
		first := slices.Clone(order[:len(one)])
		slices.Sort(first)
		return slices.Equal(first, one)
	})
}

// P8.5.
func TestOrdersOfAllShelves(t *testing.T) {
	orders := make([][][]int, 7)
	for dyes := range orders {
		orders[dyes] = permutations(dyes)
	}
	for _, s := range someShelves() {
		want := 0
		for _, order := range orders[s.Dyes] {
			if passes(order, s.Trays) {
				want++
			}
		}
		n, e := tray.Orders(s)
		sameNumber(t, "Orders", n, e, want, api.OK)
	}
}

// P8.6.
func TestShadowOfAllShelves(t *testing.T) {
	for _, s := range someShelves() {
		var shadow, shade [][]int
		for _, one := range allTrays(s.Dyes) {
			isInside := func(other []int) bool { return len(other) == len(one)+1 && contains(other, one) }
			isOutside := func(other []int) bool { return len(other) == len(one)-1 && contains(one, other) }
			if slices.ContainsFunc(s.Trays, isInside) {
				shadow = append(shadow, one)
			}
			if slices.ContainsFunc(s.Trays, isOutside) {
				shade = append(shade, one)
			}
		}
		l, e := tray.Shadow(s)
		sameTrays(t, "Shadow", l, e, shadow, api.OK)
		l, e = tray.Shade(s)
		sameTrays(t, "Shade", l, e, shade, api.OK)
	}
}

// isBefore tells whether a tray is before another one with as many dyes: it lacks the greatest dye that only
// one of them has.
func isBefore(one, other []int) bool {
	for dye := tray.MaxDyes - 1; dye >= 0; dye-- {
		if slices.Contains(one, dye) != slices.Contains(other, dye) {
			return !slices.Contains(one, dye)
		}
	}
	return false
}

// P8.7.
func TestNumberOfAllTrays(t *testing.T) {
	for dyes := 1; dyes <= 6; dyes++ {
		for _, one := range allTrays(dyes) {
			alike := withSize(allTrays(dyes), len(one))
			number := 0
			for _, other := range alike {
				if isBefore(other, one) {
					number++
				}
			}
			n, e := tray.Number(dyes, one...)
			sameNumber(t, "Number", n, e, number, api.OK)
			l, e := tray.Nth(dyes, len(one), number)
			same(t, "Nth", l, e, one, api.OK)
			l, e = tray.Nth(dyes, len(one), number+len(alike))
			same(t, "Nth", l, e, nil, api.ErrNone)
			l, e = tray.Nth(dyes, len(one), number-len(alike))
			same(t, "Nth", l, e, nil, api.ErrNone)
		}
	}
}

// P8.8, P8.12: all shelves of trays with as many dyes, up to a million of them.
func TestLeanOfAllShelves(t *testing.T) {
	for dyes := 1; dyes <= 6; dyes++ {
		for size := range dyes + 1 {
			for trays, want := range leanOf(dyes, size) {
				n, e := tray.Lean(dyes, size, trays)
				sameNumber(t, "Lean", n, e, want, api.OK)
			}
		}
	}
}

// leanOf returns, for each number of trays with as many dyes, how few trays their shadow can have.
func leanOf(dyes, size int) []int {
	all := withSize(allTrays(dyes), size)
	below := withSize(allTrays(dyes), size-1)
	shadows := make([]uint, 1<<len(all))
	lean := slices.Repeat(list(len(below)), len(all)+1)
	for number := range shadows {
		trays := 0
		for i, one := range all {
			if number>>i&1 == 0 {
				continue
			}
			trays++
			if number == 1<<i {
				shadows[number] = oneShadow(one, below)
			} else {
				shadows[number] |= shadows[1<<i]
			}
		}
		lean[trays] = min(lean[trays], ones(shadows[number]))
	}
	return lean
}

// oneShadow returns the trays that a tray contains, as bits.
func oneShadow(one []int, below [][]int) uint {
	var shadow uint
	for i, inner := range below {
		if contains(one, inner) {
			shadow |= 1 << i
		}
	}
	return shadow
}

func ones(bits uint) int {
	count := 0
	for ; bits > 0; bits >>= 1 {
		count += int(bits & 1)
	}
	return count
}

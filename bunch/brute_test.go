package bunch_test

// All results compared with what the chapter's definitions alone say.

import (
	"slices"
	"testing"

	"aigrette/api"
	"aigrette/bunch"
)

func sum(l []int) int {
	s := 0
	for _, number := range l {
		s += number
	}
	return s
}

// divisionsOf returns all divisions of so many feathers, in ascending order.
func divisionsOf(feathers int) [][]int {
	var all [][]int
	var grow func(begun []int, left, most int)
	grow = func(begun []int, left, most int) {
		if left == 0 {
			all = append(all, slices.Clone(begun))
		}
		for size := 1; size <= min(left, most); size++ {
			grow(append(begun, size), left-size, size)
		}
	}
	grow(nil, feathers, feathers)
	slices.SortFunc(all, slices.Compare[[]int])
	return all
}

// upTo returns all divisions of at most so many feathers.
func upTo(feathers int) [][]int {
	var all [][]int
	for fewer := range feathers + 1 {
		all = append(all, divisionsOf(fewer)...)
	}
	return all
}

// those returns the lists that are as wanted.
func those(all [][]int, wanted func(l []int) bool) [][]int {
	return slices.DeleteFunc(slices.Clone(all), func(l []int) bool { return !wanted(l) })
}

func isOdd(l []int) bool {
	for _, number := range l {
		if number%2 != 1 {
			return false
		}
	}
	return true
}

func isDifferent(l []int) bool {
	for i, number := range l {
		if slices.Contains(l[:i], number) {
			return false
		}
	}
	return true
}

// errorOf returns the error of a division.
func errorOf(l []int) api.Errno {
	for i, number := range l {
		switch {
		case number < 1 || number > 30:
			return api.ErrRange
		case i > 0 && l[i-1] < number:
			return api.ErrOrder
		}
	}
	if sum(l) > 30 {
		return api.ErrMany
	}
	return api.OK
}

// listsOf returns all lists of up to so many of some numbers.
func listsOf(length int, numbers ...int) [][]int {
	all := [][]int{nil}
	for i := 0; i < len(all); i++ {
		if len(all[i]) == length {
			continue
		}
		for _, number := range numbers {
			all = append(all, append(slices.Clone(all[i]), number))
		}
	}
	return all
}

// P9.1.
func TestCheckOfAllLists(t *testing.T) {
	lists := slices.Concat(listsOf(5, -1, 0, 1, 2, 3), listsOf(4, 0, 1, 9, 10, 11, 29, 30, 31), listsOf(8, 3, 4), upTo(30))
	for _, l := range divisionsOf(31) {
		lists = append(lists, l, slices.Insert(slices.Clone(l), len(l), 1), slices.Insert(slices.Clone(l), 0, 30))
	}
	for _, l := range lists {
		if e, wanted := bunch.Check(l), errorOf(l); e != wanted {
			t.Errorf("Check of %v: %d, want %d", l, e, wanted)
		}
	}
}

// turned returns a division turned.
func turned(l []int) []int {
	var numbers []int
	for least := 1; ; least++ {
		often := len(l) - lessThan(l, least)
		if often == 0 {
			return numbers
		}
		numbers = append(numbers, often)
	}
}

// lessThan returns how many numbers of a list are less than a number.
func lessThan(l []int, number int) int {
	often := 0
	for _, other := range l {
		if other < number {
			often++
		}
	}
	return often
}

// P9.1.
func TestTurnOfAllDivisions(t *testing.T) {
	for _, division := range upTo(30) {
		l, e := bunch.Turn(division)
		same(t, "Turn", l, e, turned(division), api.OK)
	}
}

// P9.2.
func TestCountsOfAllNumbers(t *testing.T) {
	for feathers := range 31 {
		all := divisionsOf(feathers)
		n, e := bunch.Count(feathers)
		sameNumber(t, "Count", n, e, len(all), api.OK)
		for most := range 31 {
			n, e := bunch.Counts(feathers, most)
			fitting := those(all, func(l []int) bool { return len(l) == 0 || slices.Max(l) <= most })
			sameNumber(t, "Counts", n, e, len(fitting), api.OK)
		}
		different := those(all, isDifferent)
		n, e = bunch.Different(feathers)
		sameNumber(t, "Different", n, e, len(different), api.OK)
		even := those(different, func(l []int) bool { return len(l)%2 == 0 })
		n, e = bunch.Signed(feathers)
		sameNumber(t, "Signed", n, e, len(even)-(len(different)-len(even)), api.OK)
	}
}

// P9.3.
func TestNumberOfAllDivisions(t *testing.T) {
	for feathers := range 31 {
		all := divisionsOf(feathers)
		for number, division := range all {
			n, e := bunch.Number(division)
			sameNumber(t, "Number", n, e, number, api.OK)
			l, e := bunch.Nth(feathers, number)
			same(t, "Nth", l, e, division, api.OK)
		}
		for _, number := range list(-len(all), -1, len(all), len(all)+1) {
			l, e := bunch.Nth(feathers, number)
			same(t, "Nth", l, e, nil, api.ErrRange)
		}
	}
}

// powersOf returns the different powers of 2 with a sum.
func powersOf(sum int) []int {
	for bits := range 32 {
		var powers []int
		total := 0
		for i, power := range list(1, 2, 4, 8, 16) {
			if bits>>i&1 == 1 {
				powers = append(powers, power)
				total += power
			}
		}
		if total == sum {
			return powers
		}
	}
	return nil
}

// doubled returns the double of an odd division.
func doubled(l []int) []int {
	var numbers []int
	for number := 1; number <= 30; number++ {
		for _, power := range powersOf(lessThan(l, number+1) - lessThan(l, number)) {
			numbers = append(numbers, number*power)
		}
	}
	slices.SortFunc(numbers, func(a, b int) int { return b - a })
	return numbers
}

// P9.4: the odd division whose double a division is, is found among all of them.
func TestDoubleOfAllDivisions(t *testing.T) {
	for feathers := range 31 {
		all := divisionsOf(feathers)
		odd, different := those(all, isOdd), those(all, isDifferent)
		for _, division := range all {
			l, e := bunch.Double(division)
			if isOdd(division) {
				same(t, "Double", l, e, doubled(division), api.OK)
			} else {
				same(t, "Double", l, e, nil, api.ErrProof)
			}
			if !isDifferent(division) {
				l, e := bunch.Half(division)
				same(t, "Half", l, e, nil, api.ErrProof)
			}
		}
		for _, division := range different {
			halves := those(odd, func(l []int) bool { return slices.Equal(doubled(l), division) })
			if len(halves) != 1 {
				t.Fatalf("%v is the double of %v", division, halves)
			}
			l, e := bunch.Half(division)
			same(t, "Half", l, e, halves[0], api.OK)
		}
	}
}

// partnerOf returns the partner of a different division, or false.
func partnerOf(l []int) ([]int, bool) {
	if len(l) == 0 {
		return nil, false
	}
	s, t := l[len(l)-1], 1
	for t < len(l) && l[t-1]-l[t] == 1 {
		t++
	}
	var other []int
	switch {
	case len(l) == t && (s == t || s == t+1):
		return nil, false
	case s <= t:
		for i, number := range l[:len(l)-1] {
			if i+1 <= s {
				number++
			}
			other = append(other, number)
		}
	default:
		for i, number := range l {
			if i+1 <= t {
				number--
			}
			other = append(other, number)
		}
		other = append(other, t)
	}
	return other, true
}

// P9.5.
func TestPartnerOfAllDivisions(t *testing.T) {
	for _, division := range upTo(30) {
		l, e := bunch.Partner(division)
		if !isDifferent(division) {
			same(t, "Partner", l, e, nil, api.ErrProof)
			continue
		}
		if other, found := partnerOf(division); found {
			same(t, "Partner", l, e, other, api.OK)
		} else {
			same(t, "Partner", l, e, nil, api.ErrLost)
		}
	}
}

// cutOf returns the square of a division, and the rest.
func cutOf(l []int) cut {
	k := len(l)
	for k > 0 && slices.Min(l[:k]) < k {
		k--
	}
	var right []int
	for _, number := range l[:k] {
		right = append(right, number-k)
	}
	right = slices.DeleteFunc(right, func(number int) bool { return number == 0 })
	return cut{k, right, slices.Clone(l[k:])}
}

// P9.6.
func TestSquareOfAllDivisions(t *testing.T) {
	for _, division := range upTo(30) {
		x := cutOf(division)
		sameSquare(t, division, x, api.OK)
		l, e := bunch.Join(x.k, x.right, x.below)
		same(t, "Join", l, e, division, api.OK)
	}
}

// errorOfJoin returns the error of Join.
func errorOfJoin(x cut) api.Errno {
	switch right, below := errorOf(x.right), errorOf(x.below); {
	case right != api.OK:
		return right
	case below != api.OK:
		return below
	case x.k < 0 || x.k > 30:
		return api.ErrRange
	case len(x.right) > x.k, len(x.below) > 0 && slices.Max(x.below) > x.k:
		return api.ErrShape
	case x.k*x.k+sum(x.right)+sum(x.below) > 30:
		return api.ErrMany
	}
	return api.OK
}

// P9.6: what Join returns is checked by its square.
func TestJoinOfAllCuts(t *testing.T) {
	parts := slices.Concat(upTo(7), [][]int{{30}, {21, 1}, {14, 14}, {6, 6, 6, 6, 5}, {0}, {31}, {1, 2}, {30, 1}, {2, 2, 3}}, [][]int{times(30, 1), times(31, 1), times(14, 2)})
	for k := -1; k <= 7; k++ {
		for _, right := range parts {
			for _, below := range parts {
				x := cut{k, right, below}
				l, e := bunch.Join(k, right, below)
				if wanted := errorOfJoin(x); e != wanted {
					t.Fatalf("Join of %v: %v %d, want %d", x, l, e, wanted)
				}
				if e != api.OK {
					same(t, "Join", l, e, nil, e)
					continue
				}
				sameError(t, "Check of Join", errorOf(l), api.OK)
				if got := cutOf(l); got.k != k || !slices.Equal(got.right, right) || !slices.Equal(got.below, below) {
					t.Errorf("Join of %v: %v", x, l)
				}
			}
		}
	}
}

// hooksOf returns the hooks of an even-handed division.
func hooksOf(l []int) []int {
	var hooks []int
	for i := 1; i <= cutOf(l).k; i++ {
		hooks = append(hooks, 2*l[i-1]-2*i+1)
	}
	return hooks
}

// P9.7: the even-handed division with some hooks is found among all of them.
func TestHooksOfAllDivisions(t *testing.T) {
	for feathers := range 31 {
		all := divisionsOf(feathers)
		isEvenHanded := func(l []int) bool { return slices.Equal(l, turned(l)) }
		evenHanded := those(all, isEvenHanded)
		for _, division := range all {
			l, e := bunch.Hooks(division)
			if isEvenHanded(division) {
				same(t, "Hooks", l, e, hooksOf(division), api.OK)
			} else {
				same(t, "Hooks", l, e, nil, api.ErrProof)
			}
			l, e = bunch.Fold(division)
			if !isOdd(division) || !isDifferent(division) {
				same(t, "Fold", l, e, nil, api.ErrProof)
				continue
			}
			folded := those(evenHanded, func(l []int) bool { return slices.Equal(hooksOf(l), division) })
			if len(folded) != 1 {
				t.Fatalf("%v are the hooks of %v", division, folded)
			}
			same(t, "Fold", l, e, folded[0], api.OK)
		}
	}
}

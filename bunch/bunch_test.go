package bunch_test

// P9.1 to P9.7, and the table of examples.

import (
	"math"
	"slices"
	"testing"

	"aigrette/api"
	"aigrette/bunch"
)

func list(l ...int) []int { return l }

// times returns a list of the same number.
func times(often, number int) []int { return slices.Repeat(list(number), often) }

func sameError(t *testing.T, name string, got, want api.Errno) {
	t.Helper()
	if got != want {
		t.Errorf("%s: %d, want %d", name, got, want)
	}
}

func sameNumber(t *testing.T, name string, got int, e api.Errno, want int, wanted api.Errno) {
	t.Helper()
	if got != want || e != wanted {
		t.Errorf("%s: %d %d, want %d %d", name, got, e, want, wanted)
	}
}

func same(t *testing.T, name string, got []int, e api.Errno, want []int, wanted api.Errno) {
	t.Helper()
	if !slices.Equal(got, want) || e != wanted {
		t.Errorf("%s: %v %d, want %v %d", name, got, e, want, wanted)
	}
}

// cut is the square of a division, and the rest.
type cut struct {
	k            int
	right, below []int
}

func sameSquare(t *testing.T, division []int, want cut, wanted api.Errno) {
	t.Helper()
	k, right, below, e := bunch.Square(division)
	if k != want.k || !slices.Equal(right, want.right) || !slices.Equal(below, want.below) || e != wanted {
		t.Errorf("Square of %v: %d %v %v %d, want %v %d", division, k, right, below, e, want, wanted)
	}
}

func TestExamplesOfCounts(t *testing.T) {
	l, e := bunch.Turn(list(4, 2, 1))
	same(t, "Turn of 4 2 1", l, e, list(3, 2, 1, 1), api.OK)
	for _, x := range [][2]int{{5, 7}, {30, 5604}, {0, 1}} {
		n, e := bunch.Count(x[0])
		sameNumber(t, "Count", n, e, x[1], api.OK)
	}
	for _, x := range [][3]int{{5, 2, 3}, {5, 0, 0}} {
		n, e := bunch.Counts(x[0], x[1])
		sameNumber(t, "Counts", n, e, x[2], api.OK)
	}
	n, e := bunch.Different(10)
	sameNumber(t, "Different of 10", n, e, 10, api.OK)
	for _, x := range [][2]int{{5, 1}, {12, -1}, {3, 0}} {
		n, e := bunch.Signed(x[0])
		sameNumber(t, "Signed", n, e, x[1], api.OK)
	}
	n, e = bunch.Number(list(3, 2))
	sameNumber(t, "Number of 3 2", n, e, 4, api.OK)
	l, e = bunch.Nth(5, 2)
	same(t, "Nth of 5, 2", l, e, list(2, 2, 1), api.OK)
	l, e = bunch.Nth(5, 7)
	same(t, "Nth of 5, 7", l, e, nil, api.ErrRange)
}

func TestExamplesOfPartners(t *testing.T) {
	l, e := bunch.Double(list(3, 3, 3, 1, 1))
	same(t, "Double of 3 3 3 1 1", l, e, list(6, 3, 2), api.OK)
	l, e = bunch.Double(list(2))
	same(t, "Double of 2", l, e, nil, api.ErrProof)
	l, e = bunch.Half(list(6, 3, 2))
	same(t, "Half of 6 3 2", l, e, list(3, 3, 3, 1, 1), api.OK)
	l, e = bunch.Half(list(4, 2))
	same(t, "Half of 4 2", l, e, times(6, 1), api.OK)
	for _, x := range []struct {
		division, partner []int
		e                 api.Errno
	}{
		{list(5, 2), list(4, 2, 1), api.OK},
		{list(4, 2, 1), list(5, 2), api.OK},
		{list(4, 3), nil, api.ErrLost},
		{list(3, 2), nil, api.ErrLost},
		{list(3), list(2, 1), api.OK},
	} {
		l, e := bunch.Partner(x.division)
		same(t, "Partner", l, e, x.partner, x.e)
	}
}

func TestExamplesOfSquares(t *testing.T) {
	sameSquare(t, list(5, 4, 4, 1), cut{3, list(2, 1, 1), list(1)}, api.OK)
	l, e := bunch.Join(3, list(2, 1, 1), list(1))
	same(t, "Join of that", l, e, list(5, 4, 4, 1), api.OK)
	l, e = bunch.Join(1, list(2, 1), nil)
	same(t, "Join of 1 with 2 1 and none", l, e, nil, api.ErrShape)
	l, e = bunch.Join(6, nil, nil)
	same(t, "Join of 6 with none and none", l, e, nil, api.ErrMany)
	l, e = bunch.Hooks(list(4, 3, 3, 1))
	same(t, "Hooks of 4 3 3 1", l, e, list(7, 3, 1), api.OK)
	l, e = bunch.Hooks(list(3, 2))
	same(t, "Hooks of 3 2", l, e, nil, api.ErrProof)
	l, e = bunch.Fold(list(7, 3, 1))
	same(t, "Fold of 7 3 1", l, e, list(4, 3, 3, 1), api.OK)
	l, e = bunch.Fold(list(3, 3))
	same(t, "Fold of 3 3", l, e, nil, api.ErrProof)
}

// wrongList is a list with an error.
type wrongList struct {
	division []int
	e        api.Errno
}

// wrong returns lists that are not divisions.
func wrong() []wrongList {
	return []wrongList{
		{list(0), api.ErrRange},
		{list(-1), api.ErrRange},
		{list(31), api.ErrRange},
		{list(math.MinInt), api.ErrRange},
		{list(math.MaxInt), api.ErrRange},
		{list(3, 2, 0), api.ErrRange},
		{list(3, 0, 4), api.ErrRange},
		{list(1, 31), api.ErrRange},
		{list(1, math.MaxInt), api.ErrRange},
		{list(30, 31), api.ErrRange},
		{list(30, 30, 30, 0), api.ErrRange},
		{append(times(1000, 30), -1), api.ErrRange},
		{list(0, 2, 3), api.ErrRange},
		{list(1, 2), api.ErrOrder},
		{list(1, 30), api.ErrOrder},
		{list(3, 1, 2), api.ErrOrder},
		{list(3, 1, 2, 0), api.ErrOrder},
		{list(29, 30, 31), api.ErrOrder},
		{append(times(31, 1), 2), api.ErrOrder},
		{list(20, 20, 21), api.ErrOrder},
		{list(30, 1), api.ErrMany},
		{list(16, 15), api.ErrMany},
		{list(30, 30), api.ErrMany},
		{list(8, 7, 6, 5, 4, 1), api.ErrMany},
		{list(17, 9, 5), api.ErrMany},
		{times(31, 1), api.ErrMany},
		{times(16, 2), api.ErrMany},
		{times(11, 3), api.ErrMany},
		{times(100000, 30), api.ErrMany},
	}
}

// P9.1.
func TestCheck(t *testing.T) {
	for _, division := range [][]int{nil, list(1), list(30), list(29, 1), list(15, 15), list(5, 5, 5, 4, 4, 4, 3), times(30, 1), list(9, 7, 5, 3, 1), list(2, 2)} {
		sameError(t, "Check", bunch.Check(division), api.OK)
	}
	for i, x := range wrong() {
		if e := bunch.Check(x.division); e != x.e {
			t.Errorf("Check %d: %d, want %d", i, e, x.e)
		}
	}
}

// P9.1: all other functions return the error of Check at first, also of lists that have other errors.
func TestCheckAtFirst(t *testing.T) {
	for i, x := range wrong() {
		for _, call := range callsOfDivision(x.division) {
			results := call.results()
			if e := results[len(results)-1]; e != x.e {
				t.Errorf("%s %d: %v, want %d", call.name, i, results, x.e)
			}
		}
		for _, k := range list(-1, 0, 1, 6, 30, 31) {
			for _, other := range [][]int{nil, list(1), list(30), x.division} {
				l, e := bunch.Join(k, x.division, other)
				same(t, "Join, wrong right", l, e, nil, x.e)
			}
			for _, right := range [][]int{nil, list(1), list(30)} {
				l, e := bunch.Join(k, right, x.division)
				same(t, "Join, wrong below", l, e, nil, x.e)
			}
		}
	}
}

// P9.1.
func TestTurn(t *testing.T) {
	for _, x := range [][2][]int{
		{nil, nil},
		{list(1), list(1)},
		{list(2, 1), list(2, 1)},
		{list(5), times(5, 1)},
		{list(30), times(30, 1)},
		{list(15, 15), times(15, 2)},
		{list(7, 5, 5, 3, 1), list(5, 4, 4, 3, 3, 1, 1)},
		{list(6, 6, 6, 6, 6), times(6, 5)},
		{list(10, 1, 1), list(3, 1, 1, 1, 1, 1, 1, 1, 1, 1)},
	} {
		l, e := bunch.Turn(x[0])
		same(t, "Turn", l, e, x[1], api.OK)
		l, e = bunch.Turn(x[1])
		same(t, "Turn", l, e, x[0], api.OK)
	}
}

// P9.2: all numbers of feathers, as tables tell them.
func TestCounts(t *testing.T) {
	all := list(1, 1, 2, 3, 5, 7, 11, 15, 22, 30, 42, 56, 77, 101, 135, 176, 231, 297, 385, 490, 627, 792, 1002, 1255, 1575, 1958, 2436, 3010, 3718, 4565, 5604)
	different := list(1, 1, 1, 2, 2, 3, 4, 5, 6, 8, 10, 12, 15, 18, 22, 27, 32, 38, 46, 54, 64, 76, 89, 104, 122, 142, 165, 192, 222, 256, 296)
	signed := list(1, -1, -1, 0, 0, 1, 0, 1, 0, 0, 0, 0, -1, 0, 0, -1, 0, 0, 0, 0, 0, 0, 1, 0, 0, 0, 1, 0, 0, 0, 0)
	for feathers := range bunch.MaxFeathers + 1 {
		n, e := bunch.Count(feathers)
		sameNumber(t, "Count", n, e, all[feathers], api.OK)
		n, e = bunch.Different(feathers)
		sameNumber(t, "Different", n, e, different[feathers], api.OK)
		n, e = bunch.Signed(feathers)
		sameNumber(t, "Signed", n, e, signed[feathers], api.OK)
	}
	for _, x := range [][3]int{{0, 0, 1}, {0, 1, 1}, {0, 30, 1}, {1, 0, 0}, {30, 0, 0}, {30, 1, 1}, {30, 2, 16}, {30, 3, 91}, {30, 15, 5096}, {30, 28, 5602}, {30, 29, 5603}, {30, 30, 5604}, {5, 3, 5}, {5, 30, 7}, {1, 30, 1}} {
		n, e := bunch.Counts(x[0], x[1])
		sameNumber(t, "Counts", n, e, x[2], api.OK)
	}
}

// P9.2, P9.3: feathers that are not from 0 to 30, and other numbers out of bounds.
func TestOutOfRange(t *testing.T) {
	for _, number := range list(-1, -30, 31, 32, 1000, math.MinInt, math.MaxInt) {
		for _, other := range list(-1, 0, 5, 30, 31) {
			for _, call := range callsOfNumbers(number, other) {
				results := call.results()
				if e := results[len(results)-1]; e != api.ErrRange {
					t.Errorf("%s of %d, %d: %v", call.name, number, other, results)
				}
			}
			n, e := bunch.Counts(other, number)
			sameNumber(t, "Counts", n, e, 0, api.ErrRange)
		}
	}
	for _, x := range [][2]int{{0, 1}, {0, -1}, {1, 1}, {5, 7}, {5, -1}, {30, 5604}, {30, -1}, {30, math.MaxInt}, {30, math.MinInt}, {29, 4565}} {
		l, e := bunch.Nth(x[0], x[1])
		same(t, "Nth", l, e, nil, api.ErrRange)
	}
}

// P9.3.
func TestNumber(t *testing.T) {
	for _, x := range []struct {
		number   int
		division []int
	}{
		{0, nil},
		{0, list(1)},
		{0, times(30, 1)},
		{1, append(list(2), times(28, 1)...)},
		{15, times(15, 2)},
		{16, append(list(3), times(27, 1)...)},
		{90, times(10, 3)},
		{5601, list(28, 2)},
		{5602, list(29, 1)},
		{5603, list(30)},
		{3, list(2, 2, 2, 1)},
		{5, list(3, 2, 1, 1)},
		{6, list(3, 2, 2)},
		{7, list(3, 3, 1)},
		{8, list(4, 1, 1, 1)},
	} {
		feathers := 0
		for _, size := range x.division {
			feathers += size
		}
		n, e := bunch.Number(x.division)
		sameNumber(t, "Number", n, e, x.number, api.OK)
		l, e := bunch.Nth(feathers, x.number)
		same(t, "Nth", l, e, x.division, api.OK)
	}
}

// P9.4.
func TestDouble(t *testing.T) {
	for _, x := range [][2][]int{
		{nil, nil},
		{list(1), list(1)},
		{list(1, 1), list(2)},
		{list(1, 1, 1), list(2, 1)},
		{list(29, 1), list(29, 1)},
		{list(15, 15), list(30)},
		{times(30, 1), list(16, 8, 4, 2)},
		{times(10, 3), list(24, 6)},
		{times(6, 5), list(20, 10)},
		{list(9, 7, 5, 3, 1), list(9, 7, 5, 3, 1)},
		{list(7, 7, 3, 3, 3, 1, 1, 1, 1), list(14, 6, 4, 3)},
		{list(5, 1, 1, 1, 1, 1, 1, 1), list(5, 4, 2, 1)},
	} {
		l, e := bunch.Double(x[0])
		same(t, "Double", l, e, x[1], api.OK)
		l, e = bunch.Half(x[1])
		same(t, "Half", l, e, x[0], api.OK)
	}
	for _, division := range [][]int{list(2), list(30), list(3, 2), list(2, 1), list(4, 3, 1), list(5, 5, 4), times(15, 2), list(6, 6, 3)} {
		l, e := bunch.Double(division)
		same(t, "Double", l, e, nil, api.ErrProof)
	}
	for _, division := range [][]int{list(1, 1), list(15, 15), list(3, 3, 1), list(5, 2, 2), list(7, 6, 6, 1), times(30, 1)} {
		l, e := bunch.Half(division)
		same(t, "Half", l, e, nil, api.ErrProof)
		l, e = bunch.Partner(division)
		same(t, "Partner", l, e, nil, api.ErrProof)
	}
}

// P9.5.
func TestPartner(t *testing.T) {
	for _, x := range [][2][]int{
		{list(3), list(2, 1)},
		{list(30), list(29, 1)},
		{list(6, 5), list(5, 4, 2)},
		{list(7, 4), list(6, 4, 1)},
		{list(7, 6, 3), list(6, 5, 3, 2)},
		{list(8, 7, 6), list(7, 6, 5, 3)},
		{list(9, 8, 3), list(8, 7, 3, 2)},
		{list(6, 3), list(5, 3, 1)},
		{list(9, 8, 7), list(8, 7, 6, 3)},
		{list(8, 7, 5, 4), list(7, 6, 5, 4, 2)},
		{list(9, 8, 7, 6), list(8, 7, 6, 5, 4)},
	} {
		l, e := bunch.Partner(x[0])
		same(t, "Partner", l, e, x[1], api.OK)
		l, e = bunch.Partner(x[1])
		same(t, "Partner", l, e, x[0], api.OK)
	}
	for _, division := range [][]int{nil, list(1), list(2), list(3, 2), list(4, 3), list(5, 4, 3), list(6, 5, 4), list(7, 6, 5, 4), list(8, 7, 6, 5)} {
		l, e := bunch.Partner(division)
		same(t, "Partner", l, e, nil, api.ErrLost)
	}
}

// P9.6.
func TestSquare(t *testing.T) {
	for _, x := range []struct {
		division []int
		cut      cut
	}{
		{nil, cut{}},
		{list(1), cut{1, nil, nil}},
		{list(30), cut{1, list(29), nil}},
		{times(30, 1), cut{1, nil, times(29, 1)}},
		{list(2, 1), cut{1, list(1), list(1)}},
		{list(2, 2), cut{2, nil, nil}},
		{list(2, 2, 2), cut{2, nil, list(2)}},
		{list(3, 2, 2), cut{2, list(1), list(2)}},
		{list(3, 3, 2), cut{2, list(1, 1), list(2)}},
		{list(3, 3, 3), cut{3, nil, nil}},
		{times(5, 6), cut{5, times(5, 1), nil}},
		{times(6, 5), cut{5, nil, list(5)}},
		{list(20, 4, 2, 2, 1, 1), cut{2, list(18, 2), list(2, 2, 1, 1)}},
	} {
		sameSquare(t, x.division, x.cut, api.OK)
		l, e := bunch.Join(x.cut.k, x.cut.right, x.cut.below)
		same(t, "Join", l, e, x.division, api.OK)
	}
}

// P9.6.
func TestJoinErrors(t *testing.T) {
	for _, x := range []struct {
		cut cut
		e   api.Errno
	}{
		{cut{-1, nil, nil}, api.ErrRange},
		{cut{31, nil, nil}, api.ErrRange},
		{cut{math.MinInt, nil, nil}, api.ErrRange},
		{cut{math.MaxInt, nil, nil}, api.ErrRange},
		{cut{1 << 32, nil, nil}, api.ErrRange},
		{cut{-1, list(30), list(30)}, api.ErrRange},
		{cut{-1, list(0), list(1, 2)}, api.ErrRange},
		{cut{31, list(1, 2), list(0)}, api.ErrOrder},
		{cut{2, list(30, 1), list(0)}, api.ErrMany},
		{cut{0, list(1), nil}, api.ErrShape},
		{cut{0, nil, list(1)}, api.ErrShape},
		{cut{1, list(1, 1), nil}, api.ErrShape},
		{cut{1, nil, list(2)}, api.ErrShape},
		{cut{2, nil, list(3, 1)}, api.ErrShape},
		{cut{2, times(30, 1), list(30)}, api.ErrShape},
		{cut{30, nil, list(30)}, api.ErrMany},
		{cut{30, nil, nil}, api.ErrMany},
		{cut{6, nil, nil}, api.ErrMany},
		{cut{5, times(5, 1), list(1)}, api.ErrMany},
		{cut{1, list(29), list(1)}, api.ErrMany},
		{cut{1, list(30), nil}, api.ErrMany},
		{cut{1, nil, times(30, 1)}, api.ErrMany},
		{cut{5, times(5, 1), nil}, api.OK},
		{cut{5, nil, list(5)}, api.OK},
		{cut{5, list(3), list(2)}, api.OK},
		{cut{0, nil, nil}, api.OK},
	} {
		if l, e := bunch.Join(x.cut.k, x.cut.right, x.cut.below); e != x.e || e != api.OK && len(l) > 0 {
			t.Errorf("Join of %v: %v %d, want %d", x.cut, l, e, x.e)
		}
	}
}

// P9.7.
func TestHooks(t *testing.T) {
	for _, x := range [][2][]int{
		{nil, nil},
		{list(1), list(1)},
		{list(2, 1), list(3)},
		{list(2, 2), list(3, 1)},
		{list(3, 3, 3), list(5, 3, 1)},
		{list(5, 5, 5, 5, 5), list(9, 7, 5, 3, 1)},
		{append(list(15), times(14, 1)...), list(29)},
		{append(list(15, 2), times(13, 1)...), list(29, 1)},
		{list(6, 5, 3, 2, 2, 1), list(11, 7, 1)},
		{list(8, 7, 2, 2, 2, 2, 2, 1), list(15, 11)},
	} {
		l, e := bunch.Hooks(x[0])
		same(t, "Hooks", l, e, x[1], api.OK)
		l, e = bunch.Fold(x[1])
		same(t, "Fold", l, e, x[0], api.OK)
	}
	for _, division := range [][]int{list(2), list(1, 1), list(3, 2), list(3, 1), list(2, 2, 2), list(30), times(30, 1), list(5, 4, 4, 1)} {
		l, e := bunch.Hooks(division)
		same(t, "Hooks", l, e, nil, api.ErrProof)
	}
	for _, hooks := range [][]int{list(2), list(30), list(1, 1), list(3, 3), list(5, 2), list(4, 1), list(5, 3, 3), list(4, 4), times(30, 1)} {
		l, e := bunch.Fold(hooks)
		same(t, "Fold", l, e, nil, api.ErrProof)
	}
}

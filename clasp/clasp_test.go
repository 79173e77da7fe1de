package clasp_test

// P3.1 to P3.7, and the table of examples.

import (
	"math"
	"slices"
	"testing"

	"aigrette/api"
	"aigrette/clasp"
)

func list(l ...int) []int { return l }

// all returns a position of some rings that are all on (1) or off (0).
func all(rings, on int) []int { return slices.Repeat(list(on), rings) }

// only returns a position with one ring on.
func only(rings, ring int) []int {
	position := all(rings, 0)
	position[ring] = 1
	return position
}

func same(t *testing.T, name string, got []int, e api.Errno, want []int, wanted api.Errno) {
	t.Helper()
	if !slices.Equal(got, want) || e != wanted {
		t.Errorf("%s: %v %d, want %v %d", name, got, e, want, wanted)
	}
}

func sameNumber(t *testing.T, name string, got int, e api.Errno, want int, wanted api.Errno) {
	t.Helper()
	if got != want || e != wanted {
		t.Errorf("%s: %d %d, want %d %d", name, got, e, want, wanted)
	}
}

func TestExamples(t *testing.T) {
	on, off := all(3, 1), all(3, 0)
	n, e := clasp.Number(on)
	sameNumber(t, "Number of 1, 1, 1", n, e, 5, api.OK)
	n, e = clasp.Number(list(0, 0, 1))
	sameNumber(t, "Number of 0, 0, 1", n, e, 7, api.OK)
	l, e := clasp.Position(3, 4)
	same(t, "Position of 3 rings: 4", l, e, list(0, 1, 1), api.OK)

	l, e = clasp.Moves(on)
	same(t, "Moves of 1, 1, 1", l, e, list(0, 1), api.OK)
	l, e = clasp.Moves(list(0, 0, 1))
	same(t, "Moves of 0, 0, 1", l, e, list(0), api.OK)
	l, e = clasp.Move(on, 1)
	same(t, "Move of ring 1", l, e, list(1, 0, 1), api.OK)
	l, e = clasp.Move(on, 2)
	same(t, "Move of ring 2", l, e, nil, api.ErrShut)

	l, e = clasp.Way(on, off)
	same(t, "Way", l, e, list(0, 2, 0, 1, 0), api.OK)
	l, e = clasp.Times(on, off)
	same(t, "Times", l, e, list(3, 1, 1), api.OK)
	l, e = clasp.At(on, off, 2)
	same(t, "At 2", l, e, list(0, 1, 0), api.OK)

	n, e = clasp.Next(list(1, 1), list(0, 0))
	sameNumber(t, "Next of 1, 1 to 0, 0", n, e, 1, api.OK)
	n, e = clasp.Next(list(1, 1), list(0, 1))
	sameNumber(t, "Next of 1, 1 to 0, 1", n, e, 0, api.OK)
	n, e = clasp.Next(list(1, 1), list(1, 1))
	sameNumber(t, "Next of 1, 1 to 1, 1", n, e, 0, api.ErrLost)

	n, e = clasp.Distance(all(16, 1), all(16, 0))
	sameNumber(t, "Distance of 16 rings", n, e, 43690, api.OK)
	l, e = clasp.Way(all(16, 1), all(16, 0))
	same(t, "Way of 16 rings", l, e, nil, api.ErrMany)

	for _, x := range []struct {
		way  []int
		want api.Errno
	}{{list(0, 2, 0, 1, 0), api.OK}, {list(0, 1), api.ErrShut}, {list(0), api.ErrProof}, {list(3), api.ErrNone}} {
		if e := clasp.Leads(on, off, x.way); e != x.want {
			t.Errorf("Leads of %v: %d, want %d", x.way, e, x.want)
		}
	}

	l, n, e = clasp.Farthest(on)
	same(t, "Farthest of 1, 1, 1", append(l, n), e, list(0, 0, 0, 5), api.OK)
	l, n, e = clasp.Farthest(off)
	same(t, "Farthest of 0, 0, 0", append(l, n), e, list(0, 0, 1, 7), api.OK)

	p := clasp.Pair{First: list(1), Second: list(1, 1)}
	n, e = clasp.Together(p)
	sameNumber(t, "Together of 1 and 1, 1", n, e, 5, api.OK)
	l, e = clasp.Turns(p)
	same(t, "Turns of 1 and 1, 1", l, e, list(0, 1, 0, 0, 0), api.OK)
	n, e = clasp.Together(clasp.Pair{First: list(1), Second: list(1)})
	sameNumber(t, "Together of 1 and 1", n, e, 2, api.OK)
}

// wrong returns positions with an error, and the error of each.
func wrong() ([][]int, []api.Errno) {
	positions := [][]int{nil, list(), all(17, 0), all(17, 1), all(17, 2), all(40, 1), list(2), list(-1), list(0, 1, 2), list(3, 1, 0), list(math.MinInt), list(1, math.MaxInt), append(all(15, 1), 2)}
	errors := []api.Errno{api.ErrEmpty, api.ErrEmpty, api.ErrMany, api.ErrMany, api.ErrMany, api.ErrMany}
	for len(errors) < len(positions) {
		errors = append(errors, api.ErrRange)
	}
	return positions, errors
}

// P3.1.
func TestCheck(t *testing.T) {
	for rings := 1; rings <= clasp.MaxRings; rings++ {
		for _, position := range [][]int{all(rings, 0), all(rings, 1), only(rings, 0), only(rings, rings-1)} {
			if e := clasp.Check(position); e != api.OK {
				t.Errorf("Check of %v: %d", position, e)
			}
		}
	}
	positions, errors := wrong()
	for i, position := range positions {
		if e := clasp.Check(position); e != errors[i] {
			t.Errorf("Check of %v: %d, want %d", position, e, errors[i])
		}
	}
}

// errorsOf returns the error of each function of one position.
func errorsOf(position []int) map[string]api.Errno {
	errors := make(map[string]api.Errno)
	_, errors["Moves"] = clasp.Moves(position)
	_, errors["Move"] = clasp.Move(position, 0)
	_, errors["Move of a wrong ring"] = clasp.Move(position, -1)
	_, errors["Number"] = clasp.Number(position)
	_, _, errors["Farthest"] = clasp.Farthest(position)
	return errors
}

// errorsOfBoth returns the error of each function of two positions.
func errorsOfBoth(from, to []int) map[string]api.Errno {
	errors := make(map[string]api.Errno)
	_, errors["Distance"] = clasp.Distance(from, to)
	_, errors["Next"] = clasp.Next(from, to)
	_, errors["Way"] = clasp.Way(from, to)
	errors["Leads"] = clasp.Leads(from, to, nil)
	errors["Leads of a wrong ring"] = clasp.Leads(from, to, list(-1))
	_, errors["Times"] = clasp.Times(from, to)
	_, errors["At"] = clasp.At(from, to, 0)
	_, errors["At of a wrong number"] = clasp.At(from, to, -1)
	_, errors["Together"] = clasp.Together(clasp.Pair{First: from, Second: to})
	_, errors["Turns"] = clasp.Turns(clasp.Pair{First: from, Second: to})
	return errors
}

func allErrors(t *testing.T, errors map[string]api.Errno, want api.Errno) {
	t.Helper()
	for name, e := range errors {
		if e != want {
			t.Errorf("%s: %d, want %d", name, e, want)
		}
	}
}

// P3.1: all other functions return the error of Check at first, for each position in their order.
func TestCheckAtFirst(t *testing.T) {
	positions, errors := wrong()
	for i, position := range positions {
		allErrors(t, errorsOf(position), errors[i])
		allErrors(t, errorsOfBoth(list(1, 0), position), errors[i])
		for _, other := range append(positions, list(1), all(16, 1)) {
			allErrors(t, errorsOfBoth(position, other), errors[i])
		}
	}
}

// P3.1.
func TestMoves(t *testing.T) {
	for _, x := range []struct{ position, want []int }{
		{list(0), list(0)}, {list(1), list(0)},
		{list(0, 0), list(0)}, {list(1, 0), list(0, 1)}, {list(1, 1), list(0, 1)}, {list(0, 1), list(0)},
		{list(0, 0, 0), list(0)}, {list(0, 1, 0), list(0, 2)}, {list(0, 1, 1), list(0, 2)}, {list(1, 1, 0), list(0, 1)}, {list(1, 0, 1), list(0, 1)},
		{list(0, 0, 1, 1), list(0, 3)}, {list(0, 0, 0, 1), list(0)},
		{only(16, 14), list(0, 15)}, {only(16, 15), list(0)}, {all(16, 1), list(0, 1)},
	} {
		l, e := clasp.Moves(x.position)
		same(t, "Moves", l, e, x.want, api.OK)
	}
}

// P3.1.
func TestMove(t *testing.T) {
	for _, x := range []struct {
		position []int
		ring     int
		want     []int
		e        api.Errno
	}{
		{list(0), 0, list(1), api.OK},
		{list(1), 0, list(0), api.OK},
		{list(1), 1, nil, api.ErrNone},
		{list(1), -1, nil, api.ErrNone},
		{list(1), math.MinInt, nil, api.ErrNone},
		{list(1), math.MaxInt, nil, api.ErrNone},
		{list(1, 0), 1, list(1, 1), api.OK},
		{list(1, 1), 1, list(1, 0), api.OK},
		{list(1, 1), 2, nil, api.ErrNone},
		{list(0, 0), 1, nil, api.ErrShut},
		{list(0, 1), 1, nil, api.ErrShut},
		{list(1, 1, 0), 2, nil, api.ErrShut},
		{list(1, 0, 0), 2, nil, api.ErrShut},
		{list(0, 1, 0), 1, nil, api.ErrShut},
		{list(0, 1, 0), 2, list(0, 1, 1), api.OK},
		{only(16, 14), 15, append(only(15, 14), 1), api.OK},
		{only(16, 14), 16, nil, api.ErrNone},
		{append(only(15, 14), 1), 15, only(16, 14), api.OK},
	} {
		l, e := clasp.Move(x.position, x.ring)
		same(t, "Move", l, e, x.want, x.e)
	}
}

// P3.2.
func TestNumberAndPosition(t *testing.T) {
	for _, x := range []struct {
		position []int
		number   int
	}{
		{list(0), 0}, {list(1), 1},
		{list(0, 0), 0}, {list(1, 0), 1}, {list(1, 1), 2}, {list(0, 1), 3},
		{list(1, 0, 0), 1}, {list(1, 1, 0), 2}, {list(0, 1, 0), 3}, {list(0, 1, 1), 4}, {list(1, 0, 1), 6},
		{all(16, 0), 0}, {all(16, 1), 43690}, {only(16, 15), 65535}, {only(16, 0), 1}, {only(16, 14), 32767},
	} {
		n, e := clasp.Number(x.position)
		sameNumber(t, "Number", n, e, x.number, api.OK)
		l, e := clasp.Position(len(x.position), x.number)
		same(t, "Position", l, e, x.position, api.OK)
	}
	for _, x := range [][2]int{{0, 0}, {0, -1}, {-1, 0}, {17, 0}, {17, 1}, {1, 2}, {1, -1}, {5, 32}, {16, 65536}, {64, 0}, {math.MinInt, 0}, {math.MaxInt, 0}, {4, math.MinInt}, {4, math.MaxInt}} {
		l, e := clasp.Position(x[0], x[1])
		same(t, "Position", l, e, nil, api.ErrRange)
	}
}

// P3.3 to P3.5: positions of different lengths.
func TestShape(t *testing.T) {
	for _, x := range [][2][]int{{list(0), list(0, 0)}, {list(0, 0), list(0)}, {all(16, 1), all(15, 1)}, {list(1, 0), list(1)}} {
		errors := errorsOfBoth(x[0], x[1])
		delete(errors, "Together")
		delete(errors, "Turns")
		allErrors(t, errors, api.ErrShape)
	}
}

// P3.3.
func TestWay(t *testing.T) {
	for _, x := range []struct{ from, to, want []int }{
		{list(0), list(0), nil},
		{list(0), list(1), list(0)},
		{list(1), list(0), list(0)},
		{list(1, 1), list(0, 0), list(1, 0)},
		{list(0, 0), list(0, 1), list(0, 1, 0)},
		{list(1, 0, 1), list(1, 1, 0), list(1, 0, 2, 0)},
		{list(0, 0, 0), list(0, 0, 1), list(0, 1, 0, 2, 0, 1, 0)},
		{only(16, 14), append(only(15, 14), 1), list(15)},
	} {
		l, e := clasp.Way(x.from, x.to)
		same(t, "Way", l, e, x.want, api.OK)
		n, e := clasp.Distance(x.from, x.to)
		sameNumber(t, "Distance", n, e, len(x.want), api.OK)
		next, want := 0, api.ErrLost
		if len(x.want) > 0 {
			next, want = x.want[0], api.OK
		}
		n, e = clasp.Next(x.from, x.to)
		sameNumber(t, "Next", n, e, next, want)
	}
}

// P3.3: Way is refused from 1001 moves on, Distance, Next, Times and At are not.
func TestLongWay(t *testing.T) {
	for _, rings := range list(10, 11, 16) {
		for _, start := range list(0, 1, 23) {
			from, _ := clasp.Position(rings, start)
			for moves, want := range map[int]api.Errno{999: api.OK, 1000: api.OK, 1001: api.ErrMany} {
				to, e := clasp.Position(rings, start+moves)
				if e != api.OK {
					continue
				}
				for _, ends := range [][2][]int{{from, to}, {to, from}} {
					way, e := clasp.Way(ends[0], ends[1])
					if e != want || want == api.OK && len(way) != moves || want != api.OK && len(way) != 0 {
						t.Errorf("a way of %d moves: %d moves, %d", moves, len(way), e)
					}
					n, e := clasp.Distance(ends[0], ends[1])
					sameNumber(t, "Distance", n, e, moves, api.OK)
				}
			}
		}
	}
	last := only(16, 15)
	n, e := clasp.Next(all(16, 0), last)
	sameNumber(t, "Next", n, e, 0, api.OK)
	l, e := clasp.Times(all(16, 0), last)
	same(t, "Times", l, e, list(32768, 16384, 8192, 4096, 2048, 1024, 512, 256, 128, 64, 32, 16, 8, 4, 2, 1), api.OK)
	l, e = clasp.At(all(16, 0), last, 43690)
	same(t, "At 43690", l, e, all(16, 1), api.OK)
	l, e = clasp.At(last, all(16, 0), 65535)
	same(t, "At 65535", l, e, all(16, 0), api.OK)
	l, e = clasp.At(last, all(16, 0), 65536)
	same(t, "At 65536", l, e, nil, api.ErrRange)
}

// P3.4.
func TestLeads(t *testing.T) {
	for _, x := range []struct {
		from, to, way []int
		want          api.Errno
	}{
		{list(0), list(0), nil, api.OK},
		{list(0), list(1), nil, api.ErrProof},
		{list(0), list(1), list(0), api.OK},
		{list(0), list(1), list(0, 0), api.ErrProof},
		{list(0), list(1), list(0, 0, 0), api.OK},
		{list(0), list(1), list(1), api.ErrNone},
		{list(0), list(1), list(-1), api.ErrNone},
		{list(0), list(1), list(0, math.MaxInt), api.ErrNone},
		{list(0, 0), list(0, 1), list(1), api.ErrShut},
		{list(0, 0), list(0, 1), list(1, 2), api.ErrShut},
		{list(0, 0), list(0, 1), list(2, 1), api.ErrNone},
		{list(0, 0), list(0, 1), list(0, 1, 0), api.OK},
		{list(0, 0), list(0, 1), list(0, 1, 1, 1, 0), api.OK},
		{list(0, 0), list(0, 1), list(0, 1, 0, 1), api.ErrShut},
		{list(0, 0), list(0, 1), list(0, 1), api.ErrProof},
		{list(1, 1, 1), list(0, 0, 0), list(0, 2, 0, 1, 0, 3), api.ErrNone},
		{only(16, 14), append(only(15, 14), 1), list(15), api.OK},
		{list(1, 0), list(1, 0), make([]int, 200000), api.OK},
		{list(1, 0), list(1, 0), make([]int, 200001), api.ErrProof},
	} {
		if e := clasp.Leads(x.from, x.to, x.way); e != x.want {
			t.Errorf("Leads of %v to %v: %d moves: %d, want %d", x.from, x.to, len(x.way), e, x.want)
		}
	}
}

// P3.5.
func TestTimesAndAt(t *testing.T) {
	l, e := clasp.Times(list(1, 0), list(1, 0))
	same(t, "Times of equal positions", l, e, list(0, 0), api.OK)
	l, e = clasp.Times(list(0, 1, 0, 0), list(0, 1, 1, 0))
	same(t, "Times of one move", l, e, list(0, 0, 1, 0), api.OK)
	l, e = clasp.Times(only(4, 3), all(4, 0))
	same(t, "Times of the whole line", l, e, list(8, 4, 2, 1), api.OK)

	from, to := list(0, 1), list(0, 0)
	for moves, want := range [][]int{list(0, 1), list(1, 1), list(1, 0), list(0, 0)} {
		l, e := clasp.At(from, to, moves)
		same(t, "At", l, e, want, api.OK)
	}
	for _, moves := range list(-1, 4, math.MinInt, math.MaxInt) {
		l, e := clasp.At(from, to, moves)
		same(t, "At", l, e, nil, api.ErrRange)
	}
	l, e = clasp.At(to, to, 0)
	same(t, "At of equal positions", l, e, to, api.OK)
	l, e = clasp.At(to, to, 1)
	same(t, "At of equal positions", l, e, nil, api.ErrRange)
}

// P3.6.
func TestFarthest(t *testing.T) {
	for _, x := range []struct {
		position, want []int
		moves          int
	}{
		{list(0), list(1), 1},
		{list(1), list(0), 1},
		{list(1, 0), list(0, 1), 2},
		{list(1, 1), list(0, 0), 2},
		{list(0, 1, 0), list(0, 0, 1), 4},
		{list(0, 1, 1), list(0, 0, 0), 4},
		{list(0, 0, 1), list(0, 0, 0), 7},
		{only(16, 14), only(16, 15), 32768},
		{append(only(15, 14), 1), all(16, 0), 32768},
		{all(16, 1), all(16, 0), 43690},
		{all(16, 0), only(16, 15), 65535},
	} {
		l, n, e := clasp.Farthest(x.position)
		same(t, "Farthest", append(l, n), e, append(x.want, x.moves), api.OK)
	}
}

// P3.7.
func TestPair(t *testing.T) {
	for _, x := range []struct{ first, second, want []int }{
		{list(0), list(0), nil},
		{all(6, 0), all(6, 0), nil},
		{list(1), list(0), list(0)},
		{list(0), list(1), list(0, 0, 0)},
		{list(1), list(1), list(0, 0)},
		{list(1, 1), list(0), list(1, 0, 0, 0)},
		{list(0), list(1, 1), list(0, 1, 0, 0)},
		{list(0, 0), list(1, 1), list(0, 1, 0, 0)},
		{list(1, 0), list(0, 1), list(0, 0, 0, 1, 0, 0)},
	} {
		p := clasp.Pair{First: x.first, Second: x.second}
		n, e := clasp.Together(p)
		sameNumber(t, "Together", n, e, len(x.want), api.OK)
		l, e := clasp.Turns(p)
		same(t, "Turns", l, e, x.want, api.OK)
	}
	last := only(6, 5)
	for _, x := range []struct {
		first, second []int
		want          int
	}{{last, last, 126}, {last, all(6, 0), 125}, {all(6, 0), last, 127}, {all(6, 1), last, 127}, {last, all(6, 1), 125}} {
		n, e := clasp.Together(clasp.Pair{First: x.first, Second: x.second})
		sameNumber(t, "Together", n, e, x.want, api.OK)
	}
}

// P3.7: errors of pairs.
func TestPairErrors(t *testing.T) {
	for _, x := range []struct {
		first, second []int
		want          api.Errno
	}{
		{all(6, 1), all(6, 1), api.OK},
		{all(7, 1), all(1, 1), api.ErrMany},
		{all(1, 1), all(7, 1), api.ErrMany},
		{all(7, 0), all(7, 0), api.ErrMany},
		{all(16, 0), all(1, 0), api.ErrMany},
		{all(7, 1), nil, api.ErrEmpty},
		{all(7, 1), list(2), api.ErrRange},
		{nil, all(17, 1), api.ErrEmpty},
		{list(2), all(17, 1), api.ErrRange},
		{all(17, 1), list(2), api.ErrMany},
		{all(1, 1), all(17, 1), api.ErrMany},
	} {
		p := clasp.Pair{First: x.first, Second: x.second}
		n, e := clasp.Together(p)
		l, f := clasp.Turns(p)
		if e != x.want || f != x.want || e != api.OK && (n != 0 || len(l) != 0) {
			t.Errorf("%v: %d %d, %v %d, want %d", p, n, e, l, f, x.want)
		}
	}
}

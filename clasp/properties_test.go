package clasp_test

// P3.8 to P3.13, and with them F1 to F7 for this layer.

import (
	"slices"
	"testing"

	"aigrette/api"
	"aigrette/clasp"
)

func position(t *testing.T, rings, number int) []int {
	t.Helper()
	p, e := clasp.Position(rings, number)
	if e != api.OK || len(p) != rings {
		t.Fatalf("Position of %d rings: %d: %v %d", rings, number, p, e)
	}
	return p
}

func number(t *testing.T, p []int) int {
	t.Helper()
	n, e := clasp.Number(p)
	if e != api.OK {
		t.Fatalf("Number of %v: %d", p, e)
	}
	return n
}

func distance(t *testing.T, from, to []int) int {
	t.Helper()
	n, e := clasp.Distance(from, to)
	if e != api.OK {
		t.Fatalf("Distance of %v to %v: %d", from, to, e)
	}
	return n
}

// P3.8, P3.10: all positions are on one line, by their numbers, and are found by them.
func TestOneLine(t *testing.T) {
	for rings := 1; rings <= clasp.MaxRings; rings++ {
		last := 1<<rings - 1
		step := max(1, last/5000)
		for n := 0; n <= last; n++ {
			if n > 40 && n < last-40 && n%step != 0 {
				continue
			}
			p := position(t, rings, n)
			if number(t, p) != n {
				t.Errorf("P3.10: %v: %d, want %d", p, number(t, p), n)
			}
			var next []int
			loose, _ := clasp.Moves(p)
			for _, ring := range loose {
				after, _ := clasp.Move(p, ring)
				next = append(next, number(t, after))
			}
			slices.Sort(next)
			want := list(n-1, n+1)
			if n == 0 {
				want = want[1:]
			}
			if n == last {
				want = want[:len(want)-1]
			}
			same(t, "P3.8: next to a position", next, api.OK, want, api.OK)
		}
	}
}

// P3.8: the distance is the difference of the numbers.
func TestDifference(t *testing.T) {
	for rings := 1; rings <= clasp.MaxRings; rings++ {
		last := 1<<rings - 1
		for i := range 40 {
			a, b := i*4711%(last+1), i*815*rings%(last+1)
			if d := distance(t, position(t, rings, a), position(t, rings, b)); d != max(a-b, b-a) {
				t.Errorf("P3.8: %d rings, %d to %d: %d", rings, a, b, d)
			}
		}
	}
}

// P3.9.
func TestEnds(t *testing.T) {
	for rings := 1; rings <= clasp.MaxRings; rings++ {
		open, end := all(rings, 0), only(rings, rings-1)
		same(t, "P3.9: the first", position(t, rings, 0), api.OK, open, api.OK)
		same(t, "P3.9: the last", position(t, rings, 1<<rings-1), api.OK, end, api.OK)
		if d := distance(t, all(rings, 1), open); d != 1<<(rings+1)/3 {
			t.Errorf("P3.9: %d rings open after %d moves", rings, d)
		}
		if d := distance(t, open, end); d != 1<<rings-1 {
			t.Errorf("P3.9: %d rings: %d", rings, d)
		}
	}
}

// P3.11, P3.12.
func TestWays(t *testing.T) {
	for rings := 1; rings <= clasp.MaxRings; rings++ {
		last := 1<<rings - 1
		for i := range 60 {
			a := i * 977 % (last + 1)
			b := (a + i*i*37%1001) % (last + 1)
			checkWay(t, position(t, rings, a), position(t, rings, b))
		}
	}
}

func checkWay(t *testing.T, from, to []int) {
	t.Helper()
	d := distance(t, from, to)
	times, e := clasp.Times(from, to)
	sum := 0
	for _, n := range times {
		sum += n
	}
	if sum != d || e != api.OK {
		t.Errorf("P3.11: %v to %v: %v %d, want %d", from, to, times, e, d)
	}
	back, _ := clasp.Times(to, from)
	same(t, "Times back", back, e, times, api.OK)

	way, e := clasp.Way(from, to)
	if d > 1000 {
		same(t, "Way", way, e, nil, api.ErrMany)
		return
	}
	for i := 1; i < len(way); i++ {
		if (way[i-1] == 0) == (way[i] == 0) {
			t.Errorf("P3.11: %v to %v: %v", from, to, way)
		}
	}
	slices.Reverse(way)
	l, e := clasp.Way(to, from)
	same(t, "P3.12: the way back", l, e, way, api.OK)
}

// P3.12: one more ring, off in both, changes nothing.
func TestOneMoreRing(t *testing.T) {
	for rings := 1; rings < clasp.MaxRings; rings++ {
		last := 1<<rings - 1
		for i := range 30 {
			a, b := position(t, rings, i*577%(last+1)), position(t, rings, i*i*1031%(last+1))
			longA, longB := append(slices.Clone(a), 0), append(slices.Clone(b), 0)
			if d := distance(t, a, b); d != distance(t, longA, longB) {
				t.Errorf("P3.12: %v to %v: %d, with one more ring %d", a, b, d, distance(t, longA, longB))
			}
			one, e := clasp.Way(a, b)
			other, f := clasp.Way(longA, longB)
			same(t, "P3.12: the way with one more ring", other, f, one, e)
		}
	}
}

// P3.13: all pairs of up to 3 rings, and some of 6.
func TestPairs(t *testing.T) {
	for i := range 8 * 8 {
		for rings := range 9 {
			checkTurns(t, position(t, rings/3+1, i/8%(1<<(rings/3+1))), position(t, rings%3+1, i%8%(1<<(rings%3+1))))
		}
		checkTurns(t, position(t, 6, i), position(t, 6, i*i*5%64))
		checkTurns(t, position(t, 6, i*7%64), position(t, 4, i%16))
		checkTurns(t, position(t, 1, i%2), position(t, 6, i))
	}
}

func checkTurns(t *testing.T, a, b []int) {
	t.Helper()
	far := list(distance(t, a, all(len(a), 0)), distance(t, b, all(len(b), 0)))
	fits := func(moves, far int) bool { return moves >= far && (moves-far)%2 == 0 }
	want := 0
	for !fits((want+1)/2, far[0]) || !fits(want/2, far[1]) {
		want++
	}
	p := clasp.Pair{First: a, Second: b}
	n, e := clasp.Together(p)
	sameNumber(t, "P3.13: Together", n, e, want, api.OK)
	rings, e := clasp.Turns(p)
	if e != api.OK || len(rings) != n {
		t.Fatalf("Turns of %v: %v %d", p, rings, e)
	}
	var moves [2][]int
	for i, ring := range rings {
		moves[i%2] = append(moves[i%2], ring)
	}
	if e, f := clasp.Leads(a, all(len(a), 0), moves[0]), clasp.Leads(b, all(len(b), 0), moves[1]); e != api.OK || f != api.OK {
		t.Errorf("P3.13: Turns of %v: %v: %d %d", p, rings, e, f)
	}
}

// F2: over the whole line each two neighbours are passed once, so ring k is moved half as often as ring k - 1.
func TestWholeLine(t *testing.T) {
	for rings := 1; rings <= clasp.MaxRings; rings++ {
		var want []int
		for ring := range rings {
			want = append(want, 1<<(rings-1-ring))
		}
		l, e := clasp.Times(only(rings, rings-1), all(rings, 0))
		same(t, "Times of the whole line", l, e, want, api.OK)
	}
}

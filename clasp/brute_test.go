package clasp_test

// All results compared with what the chapter's definitions alone say.

import (
	"slices"
	"strconv"
	"testing"

	"aigrette/api"
	"aigrette/clasp"
)

// positions returns all positions of so many rings.
func positions(rings int) [][]int {
	if rings == 0 {
		return [][]int{nil}
	}
	var made [][]int
	for _, shorter := range positions(rings - 1) {
		made = append(made, append(slices.Clone(shorter), 0), append(slices.Clone(shorter), 1))
	}
	return made
}

func canMove(position []int, ring int) bool {
	return ring == 0 || position[ring-1] == 1 && !slices.Contains(position[:ring-1], 1)
}

func turned(position []int, ring int) []int {
	after := slices.Clone(position)
	after[ring] = 1 - after[ring]
	return after
}

// key tells positions apart.
func key(position []int) string {
	text := ""
	for _, on := range position {
		text += strconv.Itoa(on)
	}
	return text
}

func numberOf(position []int) int {
	digits, on := "", 0
	for ring := len(position) - 1; ring >= 0; ring-- {
		on += position[ring]
		digits += strconv.Itoa(on % 2)
	}
	number, _ := strconv.ParseInt(digits, 2, 64)
	return int(number)
}

// movesFrom returns how many moves lead to each position.
func movesFrom(from []int) map[string]int {
	moves := map[string]int{key(from): 0}
	for queue := [][]int{from}; len(queue) > 0; queue = queue[1:] {
		position := queue[0]
		for ring := range position {
			after := turned(position, ring)
			if _, seen := moves[key(after)]; !seen && canMove(position, ring) {
				moves[key(after)] = moves[key(position)] + 1
				queue = append(queue, after)
			}
		}
	}
	return moves
}

// P3.1, P3.2, P3.6.
func TestEachPosition(t *testing.T) {
	for rings := 1; rings <= 8; rings++ {
		for _, position := range positions(rings) {
			var loose []int
			for ring := range rings {
				l, e := clasp.Move(position, ring)
				if canMove(position, ring) {
					loose = append(loose, ring)
					same(t, "Move", l, e, turned(position, ring), api.OK)
				} else {
					same(t, "Move", l, e, nil, api.ErrShut)
				}
			}
			l, e := clasp.Moves(position)
			same(t, "Moves", l, e, loose, api.OK)
			n, e := clasp.Number(position)
			sameNumber(t, "Number", n, e, numberOf(position), api.OK)
			l, e = clasp.Position(rings, n)
			same(t, "Position", l, e, position, api.OK)

			far, most, e := clasp.Farthest(position)
			moves := movesFrom(position)
			if e != api.OK || moves[key(far)] != most || len(far) != rings {
				t.Errorf("Farthest of %v: %v %d %d", position, far, most, e)
			}
			for to, n := range moves {
				if n > most || n == most && to != key(far) {
					t.Errorf("Farthest of %v: %v with %d, but %s with %d", position, far, most, to, n)
				}
			}
		}
	}
}

// P3.3, P3.4, P3.5: the way is one of rings that can be moved, it ends where it should, and none is shorter.
func TestEachTwoPositions(t *testing.T) {
	for rings := 1; rings <= 6; rings++ {
		for _, from := range positions(rings) {
			moves := movesFrom(from)
			for _, to := range positions(rings) {
				n, e := clasp.Distance(from, to)
				sameNumber(t, "Distance", n, e, moves[key(to)], api.OK)
				way, e := clasp.Way(from, to)
				if len(way) != n || e != api.OK {
					t.Fatalf("Way of %v to %v: %v %d", from, to, way, e)
				}
				followWay(t, from, to, way)
			}
		}
	}
}

func followWay(t *testing.T, from, to, way []int) {
	t.Helper()
	if e := clasp.Leads(from, to, way); e != api.OK {
		t.Errorf("Leads of %v to %v: %v: %d", from, to, way, e)
	}
	times, now := make([]int, len(from)), from
	for i, ring := range way {
		l, e := clasp.At(from, to, i)
		same(t, "At", l, e, now, api.OK)
		n, e := clasp.Next(now, to)
		sameNumber(t, "Next", n, e, ring, api.OK)
		if !canMove(now, ring) {
			t.Errorf("Way of %v to %v: %v", from, to, way)
		}
		times[ring]++
		now = turned(now, ring)
	}
	same(t, "the end of the way", now, api.OK, to, api.OK)
	l, e := clasp.At(from, to, len(way))
	same(t, "At the end", l, e, to, api.OK)
	l, e = clasp.Times(from, to)
	same(t, "Times", l, e, times, api.OK)
}

// P3.4: Leads of all short lists of rings, some of which do not exist.
func TestLeadsOfAllLists(t *testing.T) {
	from := list(1, 0, 1)
	ways := [][]int{nil}
	for i := 0; i < len(ways) && len(ways[i]) < 5; i++ {
		for ring := -1; ring <= 3; ring++ {
			ways = append(ways, append(slices.Clone(ways[i]), ring))
		}
	}
	for _, way := range ways {
		for _, to := range positions(3) {
			if e := clasp.Leads(from, to, way); e != errorOfWay(from, to, way) {
				t.Errorf("Leads to %v: %v: %d", to, way, e)
			}
		}
	}
}

func errorOfWay(from, to, way []int) api.Errno {
	for _, ring := range way {
		if ring < 0 || ring > 2 {
			return api.ErrNone
		}
		if !canMove(from, ring) {
			return api.ErrShut
		}
		from = turned(from, ring)
	}
	if !slices.Equal(from, to) {
		return api.ErrProof
	}
	return api.OK
}

// first returns the first list of rings, in turns, of just so many moves after which both are open. It
// asks only whether a state can still be opened in the moves that are left, and keeps the answers.
func first(a, b []int, turn, moves int, hopeless map[string]bool) ([]int, bool) {
	if moves == 0 {
		return nil, !slices.Contains(a, 1) && !slices.Contains(b, 1)
	}
	state := key(a) + "/" + key(b) + "/" + strconv.Itoa(turn) + "/" + strconv.Itoa(moves)
	if hopeless[state] {
		return nil, false
	}
	moved := [2][]int{a, b}[turn]
	for ring := range moved {
		if !canMove(moved, ring) {
			continue
		}
		after := [2][]int{a, b}
		after[turn] = turned(moved, ring)
		if rest, ok := first(after[0], after[1], 1-turn, moves-1, hopeless); ok {
			return append(list(ring), rest...), true
		}
	}
	hopeless[state] = true
	return nil, false
}

// P3.7: all pairs of up to three rings, and some of more, against all lists of moves.
func TestEachPair(t *testing.T) {
	hopeless := make(map[string]bool)
	for rings := range 9 {
		for i, a := range positions(rings/3 + 1) {
			for _, b := range positions(rings%3 + 1) {
				checkPair(t, a, b, hopeless)
			}
			checkPair(t, a, positions(4)[i*5%16], hopeless)
			checkPair(t, positions(4)[i*3%16], a, hopeless)
		}
	}
	checkPair(t, list(0, 0, 0, 1), list(1, 1, 1, 1), hopeless)
	checkPair(t, list(0, 1), list(0, 0, 1, 0, 1), hopeless)
}

func checkPair(t *testing.T, a, b []int, hopeless map[string]bool) {
	t.Helper()
	p := clasp.Pair{First: a, Second: b}
	for moves := 0; ; moves++ {
		want, ok := first(a, b, 0, moves, hopeless)
		if !ok {
			continue
		}
		n, e := clasp.Together(p)
		sameNumber(t, "Together of "+key(a)+" and "+key(b), n, e, moves, api.OK)
		l, e := clasp.Turns(p)
		same(t, "Turns of "+key(a)+" and "+key(b), l, e, want, api.OK)
		return
	}
}

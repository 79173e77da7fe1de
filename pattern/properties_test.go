package pattern_test

// P13.9 to P13.14, and with them F1, F2, F3, F5, F6 and F7 for this layer. It has no reasons that could be checked
// (F4), and no books (F8).

import (
	"slices"
	"testing"

	"aigrette/api"
	"aigrette/pattern"
	"aigrette/till"
)

// checked returns what a call returns, which must not be an error.
func checked[T any](t *testing.T, name string) func(result T, e api.Errno) T {
	return func(result T, e api.Errno) T {
		t.Helper()
		if e != api.OK {
			t.Fatalf("%s: %d", name, e)
		}
		return result
	}
}

func edgePoints(t *testing.T, piece []pattern.Point) []pattern.Point {
	t.Helper()
	return checked[[]pattern.Point](t, "Edge")(pattern.Edge(piece))
}

func insidePoints(t *testing.T, piece []pattern.Point) []pattern.Point {
	t.Helper()
	return checked[[]pattern.Point](t, "Inside")(pattern.Inside(piece))
}

func doubledOf(t *testing.T, piece []pattern.Point) int {
	t.Helper()
	return checked[[]int](t, "Area")(areaOf(piece))[0]
}

func turnOf(t *testing.T, piece []pattern.Point) int {
	t.Helper()
	return checked[[]int](t, "Area")(areaOf(piece))[1]
}

func cutPairs(t *testing.T, piece []pattern.Point) [][2]int {
	t.Helper()
	return checked[[][2]int](t, "Cuts")(pattern.Cuts(piece))
}

func divisionCount(t *testing.T, piece []pattern.Point) int {
	t.Helper()
	return checked[int](t, "Divisions")(pattern.Divisions(piece))
}

func hullCorners(t *testing.T, points []pattern.Point) []pattern.Point {
	t.Helper()
	return checked[[]pattern.Point](t, "Hull")(pattern.Hull(points))
}

// P13.9, F1: the doubled area, and small pieces.
func TestPick(t *testing.T) {
	for _, piece := range pieces() {
		doubled, inside, edge := doubledOf(t, piece), len(insidePoints(t, piece)), len(edgePoints(t, piece))
		if doubled != 2*inside+edge-2 {
			t.Errorf("P13.9: %v: %d, %d inside, %d on the edge", piece, doubled, inside, edge)
		}
		if small := checked[bool](t, "Small")(pattern.Small(piece)); small != (doubled == 1) {
			t.Errorf("P13.9: %v: %d, small: %v", piece, doubled, small)
		}
	}
}

// P13.9: of all triangles of a grid with six points in each direction.
func TestPickOfTriangles(t *testing.T) {
	piecesFrom(nil, 3, 6, func(piece []pattern.Point) {
		if isBefore(piece[0], piece[1]) && isBefore(piece[1], piece[2]) {
			doubled := doubledOf(t, piece)
			sameNumber(t, "P13.9", doubled, api.OK, 2*len(insidePoints(t, piece))+len(edgePoints(t, piece))-2, api.OK)
			small, e := pattern.Small(piece)
			sameTruth(t, "P13.9: Small", small, e, doubled == 1, api.OK)
		}
	})
}

// P13.10, F3: corners that can be cut off, cuts, and triangles.
func TestMeisters(t *testing.T) {
	for _, piece := range pieces() {
		n := len(piece)
		ears := checked[[]int](t, "Ears")(pattern.Ears(piece))
		triangles := checked[[][3]pattern.Point](t, "Triangles")(pattern.Triangles(piece))
		if len(triangles) != n-2 {
			t.Errorf("P13.10: %v: %v", piece, triangles)
		}
		if n == 3 {
			same(t, "P13.10: Ears of a triangle", ears, api.OK, list(0, 1, 2), api.OK)
			continue
		}
		apart := false
		for _, a := range ears {
			for _, b := range ears {
				apart = apart || a != b && (a+1)%n != b && (b+1)%n != a
			}
		}
		if cuts := cutPairs(t, piece); !apart || len(cuts) == 0 {
			t.Errorf("P13.10: %v: %v, %v", piece, ears, cuts)
		}
	}
}

// P13.11, F2: both pieces of each cut.
func TestPiecesOfCuts(t *testing.T) {
	for _, piece := range pieces() {
		doubled, turn := doubledOf(t, piece), turnOf(t, piece)
		for _, cut := range cutPairs(t, piece) {
			one, two, e := pattern.Cut(piece, cut[0], cut[1])
			if e != api.OK || pattern.Check(one) != api.OK || pattern.Check(two) != api.OK {
				t.Fatalf("P13.11: %v: %v, %v %v %d", piece, cut, one, two, e)
			}
			if turnOf(t, one) != turn || turnOf(t, two) != turn || doubledOf(t, one)+doubledOf(t, two) != doubled {
				t.Errorf("P13.11: %v: %v %v", piece, one, two)
			}
			if len(one)+len(two) != len(piece)+2 {
				t.Errorf("F2: %v: %v %v", piece, one, two)
			}
		}
	}
}

// P13.11, F2: the triangles.
func TestAreaOfTriangles(t *testing.T) {
	for _, piece := range pieces() {
		sum := 0
		for _, triangle := range checked[[][3]pattern.Point](t, "Triangles")(pattern.Triangles(piece)) {
			sum += doubledOf(t, triangle[:])
			if turnOf(t, triangle[:]) != turnOf(t, piece) {
				t.Errorf("P13.11: the turn of %v: %v", piece, triangle)
			}
		}
		sameNumber(t, "P13.11: all triangles", sum, api.OK, doubledOf(t, piece), api.OK)
	}
}

// P13.11, F2: the points inside both pieces of a cut, and between its ends.
func TestPointsOfCuts(t *testing.T) {
	for i, piece := range pieces() {
		cuts := cutPairs(t, piece)
		if len(cuts) == 0 || i%5 != 0 {
			continue
		}
		cut := cuts[i/5%len(cuts)]
		one, two, _ := pattern.Cut(piece, cut[0], cut[1])
		between := gridOn(line{piece[cut[0]], piece[cut[1]]})
		all := slices.Concat(insidePoints(t, one), insidePoints(t, two), between[1:len(between)-1])
		slices.SortFunc(all, comparePoints)
		same(t, "P13.11: points inside", insidePoints(t, piece), api.OK, all, api.OK)
	}
}

func comparePoints(p, q pattern.Point) int {
	if p == q {
		return 0
	}
	if isBefore(p, q) {
		return -1
	}
	return 1
}

// catalan returns the number of divisions of pieces with so many corners, without a dent or three corners on a
// straight line.
func catalan(corners int) int { return list(0, 0, 0, 1, 2, 5, 14, 42, 132)[corners] }

// isRound tells whether one turns in the same direction at all corners.
func isRound(piece []pattern.Point) bool {
	lefts, rights := 0, 0
	n := len(piece)
	for i := range n {
		a, b, c := piece[i], piece[(i+1)%n], piece[(i+2)%n]
		if isLeft(a, b, c) {
			lefts++
		}
		if isLeft(c, b, a) {
			rights++
		}
	}
	return max(lefts, rights) == n
}

// P13.12, F3: pieces without a dent have the most divisions.
func TestMostDivisions(t *testing.T) {
	var found [9]int
	check := func(piece []pattern.Point) {
		count := divisionCount(t, piece)
		if count > catalan(len(piece)) || count < 1 {
			t.Errorf("P13.12: %v: %d divisions", piece, count)
		}
		if isRound(piece) {
			found[len(piece)]++
			sameNumber(t, "P13.12: a piece without a dent", count, api.OK, catalan(len(piece)), api.OK)
		}
	}
	for _, piece := range pieces() {
		check(piece)
	}
	for seed := range 3000 {
		draw := seeds(seed)
		hull, e := pattern.Hull(drawnPoints(draw, 8, 9+draw(5)))
		if e == api.OK {
			check(hull)
		}
	}
	check(round())
	if slices.Min(found[3:]) == 0 {
		t.Errorf("P13.12: no pieces without a dent: %v", found)
	}
}

// P13.12: as many as good orders of two coins and two notes less than there are corners.
func TestDivisionsAndOrders(t *testing.T) {
	for corners, piece := range [][]pattern.Point{3: at(0, 0, 1, 0, 0, 1), 4: exampleQ(), 5: round()[:5], 6: round()[2:], 7: round()[1:], 8: round()} {
		if corners < 3 {
			continue
		}
		orders := checked[int](t, "Count of good orders")(till.Count(corners-2, corners-2, 0))
		sameNumber(t, "P13.12", divisionCount(t, piece), api.OK, orders, api.OK)
		sameNumber(t, "P13.12", orders, api.OK, catalan(corners), api.OK)
	}
}

// checkMoved checks that a piece has as many points, the same area, cuts and divisions as another one.
func checkMoved(t *testing.T, piece, moved []pattern.Point) {
	t.Helper()
	l, e := areaOf(moved)
	same(t, "P13.13: Area", l, e, list(doubledOf(t, piece), turnOf(t, piece)), api.OK)
	sameNumber(t, "P13.13: Edge", len(edgePoints(t, moved)), api.OK, len(edgePoints(t, piece)), api.OK)
	sameNumber(t, "P13.13: Inside", len(insidePoints(t, moved)), api.OK, len(insidePoints(t, piece)), api.OK)
	same(t, "P13.13: Cuts", cutPairs(t, moved), api.OK, cutPairs(t, piece), api.OK)
	sameNumber(t, "P13.13: Divisions", divisionCount(t, moved), api.OK, divisionCount(t, piece), api.OK)
}

// P13.13, F5, F6: sheared pieces, which can be sheared back.
func TestMovedPieces(t *testing.T) {
	moved := 0
	for i, piece := range pieces() {
		by, upright := i%7-3, i/7%2 == 1
		other, e := pattern.Sheared(piece, by, upright)
		if e != api.OK {
			continue
		}
		if by != 0 {
			moved++
		}
		checkMoved(t, piece, other)
		back, e := pattern.Sheared(other, -by, upright)
		same(t, "F6: sheared back", back, e, piece, api.OK)
	}
	if moved < 3000 {
		t.Errorf("only %d pieces were moved", moved)
	}
}

// P13.13, F5: the order of corners begins with another one.
func TestOtherBeginning(t *testing.T) {
	for _, piece := range pieces() {
		n := len(piece)
		begin := 1 + (piece[0].X+piece[1].Y)%(n-1)
		other := slices.Concat(piece[begin:], piece[:begin])
		l, e := areaOf(other)
		same(t, "P13.13: Area", l, e, list(doubledOf(t, piece), turnOf(t, piece)), api.OK)
		checkSamePoints(t, piece, other)
		checkRenamed(t, piece, other, func(corner int) int { return (corner + n - begin) % n })
	}
}

// P13.13, F5: the order of corners is turned round.
func TestTurnedRound(t *testing.T) {
	for _, piece := range pieces() {
		other := slices.Clone(piece)
		slices.Reverse(other)
		l, e := areaOf(other)
		same(t, "P13.13: Area", l, e, list(doubledOf(t, piece), -turnOf(t, piece)), api.OK)
		checkSamePoints(t, piece, other)
		checkRenamed(t, piece, other, func(corner int) int { return len(piece) - 1 - corner })
	}
}

// checkSamePoints checks that two pieces have the same points, and the same hull.
func checkSamePoints(t *testing.T, piece, other []pattern.Point) {
	t.Helper()
	same(t, "P13.13: Edge", edgePoints(t, other), api.OK, edgePoints(t, piece), api.OK)
	same(t, "P13.13: Inside", insidePoints(t, other), api.OK, insidePoints(t, piece), api.OK)
	same(t, "F5: Hull", hullCorners(t, other), api.OK, hullCorners(t, piece), api.OK)
}

// checkRenamed checks that a piece with other names of its corners has the same cuts, corners that can be cut off,
// and divisions.
func checkRenamed(t *testing.T, piece, other []pattern.Point, name func(corner int) int) {
	t.Helper()
	var cuts [][2]int
	for _, cut := range cutPairs(t, piece) {
		a, b := name(cut[0]), name(cut[1])
		cuts = append(cuts, [2]int{min(a, b), max(a, b)})
	}
	slices.SortFunc(cuts, func(a, b [2]int) int { return slices.Compare(a[:], b[:]) })
	same(t, "F5: Cuts", cutPairs(t, other), api.OK, cuts, api.OK)
	var ears []int
	for _, ear := range checked[[]int](t, "Ears")(pattern.Ears(piece)) {
		ears = append(ears, name(ear))
	}
	slices.Sort(ears)
	got, e := pattern.Ears(other)
	same(t, "F5: Ears", got, e, ears, api.OK)
	sameNumber(t, "F5: Divisions", divisionCount(t, other), api.OK, divisionCount(t, piece), api.OK)
}

// P13.4, F5: both ends of a cut in the other order change places of its pieces.
func TestCutFromTheOtherEnd(t *testing.T) {
	for _, piece := range pieces() {
		for _, cut := range cutPairs(t, piece) {
			one, two, _ := pattern.Cut(piece, cut[0], cut[1])
			other, another, e := pattern.Cut(piece, cut[1], cut[0])
			same(t, "F5: Cut", other, e, two, api.OK)
			same(t, "F5: Cut", another, e, one, api.OK)
		}
	}
}

// P13.14, F3: the hull of the corners, and the hull of the hull.
func TestHullOfPieces(t *testing.T) {
	for _, piece := range pieces() {
		hull := hullCorners(t, piece)
		if doubledOf(t, hull) < doubledOf(t, piece) || turnOf(t, hull) != 1 {
			t.Errorf("P13.14: %v: %v", piece, hull)
		}
		same(t, "P13.14: the hull of a hull", hullCorners(t, hull), api.OK, hull, api.OK)
		if isRound(piece) && (len(hull) != len(piece) || doubledOf(t, hull) != doubledOf(t, piece)) {
			t.Errorf("P13.14: %v without a dent: %v", piece, hull)
		}
	}
}

// F5, F7: a hull stays with its points in another order, and does not get smaller with one more.
func TestMorePoints(t *testing.T) {
	for seed := range 3000 {
		draw := seeds(seed)
		points := drawnPoints(draw, 4+draw(5), 3+draw(11))
		fewer, e := pattern.Hull(points[:len(points)-1])
		if e != api.OK {
			continue
		}
		more := hullCorners(t, points)
		for _, p := range fewer {
			place, e := pattern.Where(more, p)
			if place == 0 || e != api.OK {
				t.Errorf("F7: %v: %v, %v", points, fewer, more)
			}
		}
		if doubledOf(t, more) < doubledOf(t, fewer) {
			t.Errorf("F7: %v: %v, %v", points, fewer, more)
		}
		other := slices.Clone(points)
		slices.Reverse(other)
		same(t, "F5: Hull", hullCorners(t, other), api.OK, more, api.OK)
	}
}

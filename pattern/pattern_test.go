package pattern_test

// P13.1 to P13.8, and the table of examples.

import (
	"math"
	"slices"
	"testing"

	"aigrette/api"
	"aigrette/pattern"
)

func list(l ...int) []int { return l }

// at returns points: of its numbers, each two are one.
func at(numbers ...int) []pattern.Point {
	var l []pattern.Point
	for pair := range slices.Chunk(numbers, 2) {
		l = append(l, pattern.Point{X: pair[0], Y: pair[1]})
	}
	return l
}

// pairs returns pairs: of its numbers, each two are one.
func pairs(numbers ...int) [][2]int {
	var l [][2]int
	for pair := range slices.Chunk(numbers, 2) {
		l = append(l, [2]int(pair))
	}
	return l
}

// threes returns triangles: of its points, each three are one.
func threes(numbers ...int) [][3]pattern.Point {
	var l [][3]pattern.Point
	for three := range slices.Chunk(at(numbers...), 3) {
		l = append(l, [3]pattern.Point(three))
	}
	return l
}

// exampleQ and exampleL are Q and L of the table of examples.
func exampleQ() []pattern.Point { return at(0, 0, 2, 0, 2, 2, 0, 2) }

func exampleL() []pattern.Point { return at(0, 0, 4, 0, 4, 2, 2, 2, 2, 4, 0, 4) }

// arrow returns four corners, at one of which there is a dent.
func arrow() []pattern.Point { return at(0, 0, 6, 2, 0, 4, 2, 2) }

// lined returns a triangle with three more corners on one of its sides, clockwise.
func lined() []pattern.Point { return at(4, 4, 4, 3, 4, 2, 4, 1, 4, 0, 0, 0) }

// star returns eight corners, every second of which is a dent.
func star() []pattern.Point { return at(6, 0, 7, 5, 12, 6, 7, 7, 6, 12, 5, 7, 0, 6, 5, 5) }

// round returns eight corners without a dent.
func round() []pattern.Point { return at(2, 0, 4, 0, 6, 2, 6, 4, 4, 6, 2, 6, 0, 4, 0, 2) }

// comb returns eight corners: two teeth upwards, with a corner on the side below.
func comb() []pattern.Point { return at(0, 0, 3, 0, 6, 0, 6, 4, 4, 4, 3, 1, 2, 4, 0, 4) }

// whole returns the whole grid.
func whole() []pattern.Point { return at(0, 0, 12, 0, 12, 12, 0, 12) }

func sameError(t *testing.T, name string, got, want api.Errno) {
	t.Helper()
	if got != want {
		t.Errorf("%s: %d, want %d", name, got, want)
	}
}

func sameNumber(t *testing.T, name string, got int, e api.Errno, want int, wanted api.Errno) {
	t.Helper()
	if got != want || e != wanted {
		t.Errorf("%s: %d %d, want %d %d", name, got, e, want, wanted)
	}
}

func sameTruth(t *testing.T, name string, got bool, e api.Errno, want bool, wanted api.Errno) {
	t.Helper()
	if got != want || e != wanted {
		t.Errorf("%s: %v %d, want %v %d", name, got, e, want, wanted)
	}
}

func same[T comparable](t *testing.T, name string, got []T, e api.Errno, want []T, wanted api.Errno) {
	t.Helper()
	if !slices.Equal(got, want) || e != wanted {
		t.Errorf("%s: %v %d, want %v %d", name, got, e, want, wanted)
	}
}

// areaOf returns the doubled area and the turn of a piece as a list, and its error.
func areaOf(piece []pattern.Point) ([]int, api.Errno) {
	doubled, turn, e := pattern.Area(piece)
	return list(doubled, turn), e
}

func TestExamplesOfPoints(t *testing.T) {
	l, e := areaOf(exampleQ())
	same(t, "Area of Q", l, e, list(8, 1), api.OK)
	l, e = areaOf(exampleL())
	same(t, "Area of L", l, e, list(24, 1), api.OK)
	p, e := pattern.Edge(exampleL())
	sameNumber(t, "Edge of L", len(p), e, 16, api.OK)
	p, e = pattern.Inside(exampleL())
	same(t, "Inside of L", p, e, at(1, 1, 1, 2, 1, 3, 2, 1, 3, 1), api.OK)
	for i, want := range []int{2, 1, 0} {
		n, e := pattern.Where(exampleL(), at(1, 1, 2, 3, 3, 3)[i])
		sameNumber(t, "Where of L", n, e, want, api.OK)
	}
	n, e := pattern.Where(exampleL(), pattern.Point{X: 13})
	sameNumber(t, "Where of L: 13 0", n, e, 0, api.ErrRange)
	sameError(t, "Check of two sides that cross", pattern.Check(at(0, 0, 2, 2, 2, 0, 0, 2)), api.ErrShape)
	sameError(t, "Check of a straight line", pattern.Check(at(0, 0, 1, 1, 2, 2)), api.ErrShape)
	small, e := pattern.Small(at(0, 0, 3, 1, 2, 1))
	sameTruth(t, "Small", small, e, true, api.OK)
}

func TestExamplesOfCuts(t *testing.T) {
	c, e := pattern.Cuts(exampleQ())
	same(t, "Cuts of Q", c, e, pairs(0, 2, 1, 3), api.OK)
	c, e = pattern.Cuts(exampleL())
	same(t, "Cuts of L", c, e, pairs(0, 2, 0, 3, 0, 4, 1, 3, 3, 5), api.OK)
	one, two, e := pattern.Cut(exampleL(), 3, 0)
	same(t, "Cut of L: 3, 0", one, e, at(2, 2, 2, 4, 0, 4, 0, 0), api.OK)
	same(t, "Cut of L: 3, 0", two, e, at(0, 0, 4, 0, 4, 2, 2, 2), api.OK)
	_, _, e = pattern.Cut(exampleL(), 1, 4)
	sameError(t, "Cut of L: 1, 4", e, api.ErrClash)
	_, _, e = pattern.Cut(exampleL(), 0, 6)
	sameError(t, "Cut of L: 0, 6", e, api.ErrNone)
	l, e := pattern.Ears(exampleL())
	same(t, "Ears of L", l, e, list(1, 2, 4, 5), api.OK)
	n, e := pattern.Divisions(exampleQ())
	sameNumber(t, "Divisions of Q", n, e, 2, api.OK)
	n, e = pattern.Divisions(exampleL())
	sameNumber(t, "Divisions of L", n, e, 4, api.OK)
	three, e := pattern.Triangles(exampleL())
	same(t, "Triangles of L", three, e, threes(0, 0, 4, 0, 4, 2, 0, 0, 4, 2, 2, 2, 0, 4, 0, 0, 2, 2, 2, 2, 2, 4, 0, 4), api.OK)
}

func TestExamplesOfOtherPieces(t *testing.T) {
	p, e := pattern.Sheared(exampleQ(), 1, false)
	same(t, "Sheared of Q by 1", p, e, at(0, 0, 2, 0, 4, 2, 2, 2), api.OK)
	p, e = pattern.Sheared(exampleQ(), -1, false)
	same(t, "Sheared of Q by -1", p, e, nil, api.ErrClash)
	p, e = pattern.Sheared(exampleQ(), 1, true)
	same(t, "Sheared of Q by 1, upright", p, e, at(0, 0, 2, 2, 2, 4, 0, 2), api.OK)
	p, e = pattern.Sheared(exampleQ(), 4, false)
	same(t, "Sheared of Q by 4", p, e, nil, api.ErrRange)
	p, e = pattern.Hull(at(1, 1, 2, 2, 0, 2, 0, 0, 2, 0, 1, 0))
	same(t, "Hull", p, e, exampleQ(), api.OK)
	p, e = pattern.Hull(at(0, 0, 1, 1, 2, 2))
	same(t, "Hull of a straight line", p, e, nil, api.ErrShape)
}

// A square with sides of 2 has one point inside and eight on its edge (DOC.md, example 13).
func TestExampleOfTheDocument(t *testing.T) {
	in, e := pattern.Inside(exampleQ())
	sameNumber(t, "Inside of a square", len(in), e, 1, api.OK)
	edge, e := pattern.Edge(exampleQ())
	sameNumber(t, "Edge of a square", len(edge), e, 8, api.OK)
}

type wrongPiece struct {
	piece []pattern.Point
	e     api.Errno
}

// wrongPoints returns lists that are no pieces for the sake of their points.
func wrongPoints() []wrongPiece {
	return []wrongPiece{
		{nil, api.ErrEmpty},
		{at(0, 0), api.ErrEmpty},
		{at(0, 0, 1, 1), api.ErrEmpty},
		{at(-1, 0, -1, 0), api.ErrEmpty},
		{append(round(), at(1, 1)...), api.ErrMany},
		{make([]pattern.Point, 9), api.ErrMany},
		{slices.Repeat(at(13, 13), 1000), api.ErrMany},
		{at(0, 0, 1, 0, 13, 0), api.ErrRange},
		{at(0, 0, 1, 0, 0, 13), api.ErrRange},
		{at(-1, 0, 1, 0, 0, 1), api.ErrRange},
		{at(0, 0, 1, -1, 0, 1), api.ErrRange},
		{at(0, 0, math.MaxInt, 0, math.MinInt, 1), api.ErrRange},
		{at(0, 0, 2, math.MinInt, 0, math.MaxInt), api.ErrRange},
		{at(0, 0, 13, 0, 0, 0), api.ErrRange},
		{at(13, 0, 13, 0, 0, 0), api.ErrRange},
		{at(0, 0, 1, 0, 0, 0), api.ErrTwice},
		{at(0, 0, 0, 0, 0, 13), api.ErrTwice},
		{at(3, 4, 4, 3, 4, 3, 3, 4), api.ErrTwice},
		{at(0, 0, 4, 0, 2, 2, 4, 4, 0, 4, 2, 2), api.ErrTwice},
		{slices.Repeat(at(5, 5), 8), api.ErrTwice},
	}
}

// wrongShapes returns lists that are no pieces for the sake of their sides.
func wrongShapes() []wrongPiece {
	var wrong []wrongPiece
	for _, piece := range [][]pattern.Point{
		at(0, 0, 1, 1, 2, 2),
		at(0, 0, 2, 2, 1, 1),
		at(5, 1, 5, 9, 5, 4),
		// two sides cross, at a point of the grid or not
		at(0, 0, 2, 2, 2, 0, 0, 2),
		at(0, 0, 1, 1, 1, 0, 0, 1),
		at(0, 0, 12, 12, 12, 11, 1, 12, 0, 12),
		// a side comes back on the one before it, as far or not, or further
		at(0, 0, 2, 0, 1, 0, 0, 2),
		at(1, 0, 2, 0, 0, 0, 0, 2),
		at(0, 2, 0, 0, 2, 0, 1, 0),
		at(2, 0, 1, 0, 0, 2, 0, 0),
		// a corner is on a side
		at(0, 0, 4, 0, 4, 2, 2, 0, 0, 2),
		at(0, 0, 4, 0, 4, 4, 2, 0, 0, 4),
		at(2, 0, 0, 4, 0, 0, 4, 0, 4, 4),
		// two sides that are not next to each other have a part in common
		at(0, 0, 3, 0, 3, 2, 2, 0, 1, 0, 0, 2),
		at(0, 0, 2, 0, 2, 1, 1, 1, 1, 0, 0, 1),
		at(0, 0, 1, 0, 2, 0, 2, 2, 0, 2, 0, 1, 2, 1),
	} {
		wrong = append(wrong, wrongPiece{piece, api.ErrShape})
	}
	return wrong
}

// rightPieces returns pieces.
func rightPieces() [][]pattern.Point {
	return [][]pattern.Point{exampleQ(), exampleL(), arrow(), lined(), star(), round(), comb(), whole(), at(0, 0, 3, 1, 2, 1), at(0, 0, 0, 12, 12, 12), at(11, 12, 12, 12, 0, 0)}
}

// P13.1: Check.
func TestCheck(t *testing.T) {
	for i, piece := range rightPieces() {
		if e := pattern.Check(piece); e != api.OK {
			t.Errorf("Check of piece %d: %d", i, e)
		}
	}
	for i, x := range slices.Concat(wrongPoints(), wrongShapes()) {
		if e := pattern.Check(x.piece); e != x.e {
			t.Errorf("Check of wrong piece %d: %d, want %d", i, e, x.e)
		}
	}
}

// P13.1: all other functions of a piece return at first the error of Check.
func TestCheckAtFirst(t *testing.T) {
	for _, x := range slices.Concat(wrongPoints(), wrongShapes()) {
		for _, call := range callsOfPiece(x.piece, pattern.Point{X: -1}, -1, 99, 9, false) {
			results := call.results()
			if e := results[len(results)-1]; e != x.e {
				t.Errorf("%s of %v: %d, want %d", call.name, x.piece, e, x.e)
			}
		}
	}
}

// P13.2: Area.
func TestArea(t *testing.T) {
	for _, x := range []struct {
		piece         []pattern.Point
		doubled, turn int
	}{
		{at(0, 0, 1, 0, 0, 1), 1, 1},
		{at(0, 0, 0, 1, 1, 0), 1, -1},
		{at(12, 12, 11, 12, 12, 11), 1, 1},
		{at(0, 0, 12, 11, 1, 1), 1, 1},
		{at(5, 5, 7, 6, 6, 7), 3, 1},
		{at(0, 2, 2, 2, 2, 0, 0, 0), 8, -1},
		{at(3, 3, 5, 3, 5, 5, 3, 5), 8, 1},
		{arrow(), 16, 1},
		{lined(), 16, -1},
		{star(), 48, 1},
		{round(), 56, 1},
		{comb(), 42, 1},
		{whole(), 288, 1},
	} {
		l, e := areaOf(x.piece)
		same(t, "Area", l, e, list(x.doubled, x.turn), api.OK)
	}
}

// P13.2: Edge.
func TestEdge(t *testing.T) {
	for _, x := range []struct {
		piece, edge []pattern.Point
	}{
		{at(0, 1, 1, 0, 0, 0), at(0, 0, 0, 1, 1, 0)},
		{at(12, 12, 11, 12, 12, 11), at(11, 12, 12, 11, 12, 12)},
		{at(0, 0, 12, 11, 1, 1), at(0, 0, 1, 1, 12, 11)},
		{at(2, 6, 6, 0, 8, 9), at(2, 6, 4, 3, 4, 7, 6, 0, 6, 8, 8, 9)},
		{exampleQ(), at(0, 0, 0, 1, 0, 2, 1, 0, 1, 2, 2, 0, 2, 1, 2, 2)},
		{arrow(), at(0, 0, 0, 4, 1, 1, 1, 3, 2, 2, 3, 1, 3, 3, 6, 2)},
		{lined(), at(0, 0, 1, 0, 1, 1, 2, 0, 2, 2, 3, 0, 3, 3, 4, 0, 4, 1, 4, 2, 4, 3, 4, 4)},
	} {
		edge, e := pattern.Edge(x.piece)
		same(t, "Edge", edge, e, x.edge, api.OK)
	}
	edge, e := pattern.Edge(whole())
	sameNumber(t, "Edge of the whole grid", len(edge), e, 48, api.OK)
}

// P13.2: Inside.
func TestInside(t *testing.T) {
	for _, x := range []struct {
		piece, inside []pattern.Point
	}{
		{at(0, 1, 1, 0, 0, 0), nil},
		{at(0, 0, 12, 11, 1, 1), nil},
		{at(5, 5, 7, 6, 6, 7), at(6, 6)},
		{exampleQ(), at(1, 1)},
		{arrow(), at(2, 1, 2, 3, 3, 2, 4, 2, 5, 2)},
		{lined(), at(2, 1, 3, 1, 3, 2)},
		{at(0, 0, 6, 0, 6, 2, 4, 2, 4, 1, 2, 1, 2, 2, 0, 2), at(1, 1, 5, 1)},
		{at(1, 0, 3, 1, 2, 3, 0, 2), at(1, 1, 1, 2, 2, 1, 2, 2)},
	} {
		inside, e := pattern.Inside(x.piece)
		same(t, "Inside", inside, e, x.inside, api.OK)
	}
	inside, e := pattern.Inside(whole())
	sameNumber(t, "Inside of the whole grid", len(inside), e, 121, api.OK)
	if inside[0] != at(1, 1)[0] || inside[1] != at(1, 2)[0] || inside[120] != at(11, 11)[0] {
		t.Errorf("Inside of the whole grid: %v", inside)
	}
}

// P13.3: Where.
func TestWhere(t *testing.T) {
	for _, x := range []struct {
		piece  []pattern.Point
		points []pattern.Point
		want   int
	}{
		{exampleL(), at(1, 1, 3, 1, 1, 3), 2},
		{exampleL(), at(0, 0, 4, 0, 2, 2, 3, 2, 0, 3), 1},
		// on the line of a side, beyond its ends
		{exampleL(), at(5, 0, 0, 5, 12, 0, 4, 3, 3, 4, 4, 4, 12, 12), 0},
		{exampleL(), at(3, 3, 12, 2), 0},
		// between two teeth, and left or right of corners as high
		{comb(), at(3, 2, 3, 4), 0},
		{comb(), at(1, 1, 5, 1, 1, 3), 2},
		{comb(), at(3, 1, 4, 0, 2, 4, 5, 4), 1},
		{comb(), at(7, 1, 7, 4, 7, 0), 0},
		{star(), at(6, 6, 6, 1, 1, 6, 6, 11, 11, 6), 2},
		{star(), at(5, 5, 7, 7, 0, 6), 1},
		{star(), at(4, 4, 8, 8, 4, 8, 8, 4, 0, 0, 0, 5, 5, 12), 0},
		{whole(), at(0, 0, 12, 12, 0, 12, 12, 0, 5, 0, 12, 7), 1},
		{whole(), at(1, 1, 11, 11, 6, 6), 2},
	} {
		for _, p := range x.points {
			n, e := pattern.Where(x.piece, p)
			sameNumber(t, "Where", n, e, x.want, api.OK)
		}
		for _, p := range at(-1, 0, 0, -1, 13, 0, 0, 13, 13, 13, -1, 13, math.MinInt, 0, 0, math.MaxInt, math.MaxInt, math.MinInt) {
			n, e := pattern.Where(x.piece, p)
			sameNumber(t, "Where out of the grid", n, e, 0, api.ErrRange)
		}
	}
}

// P13.3: Small.
func TestSmall(t *testing.T) {
	for _, x := range []struct {
		piece []pattern.Point
		small bool
	}{
		{at(0, 0, 1, 0, 0, 1), true},
		{at(0, 0, 0, 1, 1, 0), true},
		{at(0, 0, 12, 11, 1, 1), true},
		{at(0, 0, 11, 12, 12, 12), false},
		{at(0, 0, 11, 12, 1, 1), true},
		{at(0, 0, 2, 0, 0, 1), false},
		{at(0, 0, 2, 0, 1, 1), false},
		{at(5, 5, 7, 6, 6, 7), false},
		// its four points enclose no more than two small pieces do
		{at(0, 0, 1, 0, 1, 1, 0, 1), false},
		{at(0, 0, 1, 0, 2, 0, 0, 1), false},
		{exampleQ(), false},
		{star(), false},
	} {
		small, e := pattern.Small(x.piece)
		sameTruth(t, "Small", small, e, x.small, api.OK)
	}
}

// P13.4: Cuts.
func TestCuts(t *testing.T) {
	for _, x := range []struct {
		piece []pattern.Point
		cuts  [][2]int
	}{
		{at(0, 0, 1, 0, 0, 1), nil},
		{at(0, 0, 1, 0, 1, 1, 0, 1), pairs(0, 2, 1, 3)},
		// between 0 and 2 the line is outside
		{arrow(), pairs(1, 3)},
		{at(6, 2, 0, 4, 2, 2, 0, 0), pairs(0, 2)},
		// a corner on a straight line is on the line between those next to it
		{at(0, 0, 1, 0, 2, 0, 0, 2), pairs(1, 3)},
		{lined(), pairs(1, 5, 2, 5, 3, 5)},
		// from each of the other corners to all that are not the next but one
		{star(), pairs(0, 3, 0, 4, 0, 5, 1, 3, 1, 4, 1, 5, 1, 6, 1, 7, 2, 5, 2, 6, 2, 7, 3, 5, 3, 6, 3, 7, 4, 7, 5, 7)},
		// the line between 0 and 2 is inside but for corner 4
		{at(0, 0, 5, 0, 4, 4, 3, 4, 2, 2, 0, 3), pairs(0, 4, 1, 3, 1, 4, 1, 5, 2, 4)},
		{comb(), pairs(0, 5, 0, 6, 1, 3, 1, 4, 1, 5, 1, 6, 1, 7, 2, 4, 2, 5, 3, 5, 5, 7)},
	} {
		cuts, e := pattern.Cuts(x.piece)
		same(t, "Cuts", cuts, e, x.cuts, api.OK)
	}
}

// P13.4: Cut.
func TestCut(t *testing.T) {
	for _, x := range []struct {
		piece    []pattern.Point
		a, b     int
		one, two []pattern.Point
		e        api.Errno
	}{
		{exampleQ(), 0, 2, at(0, 0, 2, 0, 2, 2), at(2, 2, 0, 2, 0, 0), api.OK},
		{exampleQ(), 3, 1, at(0, 2, 0, 0, 2, 0), at(2, 0, 2, 2, 0, 2), api.OK},
		{exampleL(), 0, 3, at(0, 0, 4, 0, 4, 2, 2, 2), at(2, 2, 2, 4, 0, 4, 0, 0), api.OK},
		{exampleL(), 5, 3, at(0, 4, 0, 0, 4, 0, 4, 2, 2, 2), at(2, 2, 2, 4, 0, 4), api.OK},
		{lined(), 5, 2, at(0, 0, 4, 4, 4, 3, 4, 2), at(4, 2, 4, 1, 4, 0, 0, 0), api.OK},
		{round(), 7, 3, at(0, 2, 2, 0, 4, 0, 6, 2, 6, 4), at(6, 4, 4, 6, 2, 6, 0, 4, 0, 2), api.OK},
		{round(), 4, 6, at(4, 6, 2, 6, 0, 4), at(0, 4, 0, 2, 2, 0, 4, 0, 6, 2, 6, 4, 4, 6), api.OK},
		{arrow(), 0, 2, nil, nil, api.ErrClash},
		{arrow(), 2, 0, nil, nil, api.ErrClash},
		{lined(), 0, 2, nil, nil, api.ErrClash},
		{lined(), 4, 0, nil, nil, api.ErrClash},
		{exampleQ(), 0, 1, nil, nil, api.ErrClash},
		{exampleQ(), 3, 0, nil, nil, api.ErrClash},
		{exampleQ(), 3, 3, nil, nil, api.ErrClash},
		{at(0, 0, 1, 0, 0, 1), 0, 2, nil, nil, api.ErrClash},
		{at(0, 0, 1, 0, 0, 1), 1, 1, nil, nil, api.ErrClash},
		{exampleQ(), 0, 4, nil, nil, api.ErrNone},
		{exampleQ(), 4, 0, nil, nil, api.ErrNone},
		{exampleQ(), -1, 1, nil, nil, api.ErrNone},
		{exampleQ(), 1, -1, nil, nil, api.ErrNone},
		{exampleQ(), 4, 4, nil, nil, api.ErrNone},
		{round(), math.MinInt, math.MaxInt, nil, nil, api.ErrNone},
	} {
		one, two, e := pattern.Cut(x.piece, x.a, x.b)
		same(t, "Cut, the first piece", one, e, x.one, x.e)
		same(t, "Cut, the second piece", two, e, x.two, x.e)
	}
}

// P13.5: Ears.
func TestEars(t *testing.T) {
	for _, x := range []struct {
		piece []pattern.Point
		ears  []int
	}{
		{at(0, 0, 1, 0, 0, 1), list(0, 1, 2)},
		{at(0, 12, 12, 12, 6, 0), list(0, 1, 2)},
		{exampleQ(), list(0, 1, 2, 3)},
		{arrow(), list(0, 2)},
		{at(6, 2, 0, 4, 2, 2, 0, 0), list(1, 3)},
		{lined(), list(0, 4)},
		{star(), list(0, 2, 4, 6)},
		{round(), list(0, 1, 2, 3, 4, 5, 6, 7)},
		{comb(), list(0, 2, 3, 4, 6, 7)},
		{at(0, 0, 5, 0, 4, 4, 3, 4, 2, 2, 0, 3), list(0, 2, 3, 5)},
	} {
		ears, e := pattern.Ears(x.piece)
		same(t, "Ears", ears, e, x.ears, api.OK)
	}
}

// P13.5: Triangles.
func TestTriangles(t *testing.T) {
	for _, x := range []struct {
		piece     []pattern.Point
		triangles [][3]pattern.Point
	}{
		{at(7, 7, 1, 0, 0, 1), threes(7, 7, 1, 0, 0, 1)},
		{exampleQ(), threes(0, 2, 0, 0, 2, 0, 2, 0, 2, 2, 0, 2)},
		{arrow(), threes(2, 2, 0, 0, 6, 2, 6, 2, 0, 4, 2, 2)},
		{at(6, 2, 0, 4, 2, 2, 0, 0), threes(6, 2, 0, 4, 2, 2, 6, 2, 2, 2, 0, 0)},
		{lined(), threes(0, 0, 4, 4, 4, 3, 0, 0, 4, 3, 4, 2, 0, 0, 4, 2, 4, 1, 4, 1, 4, 0, 0, 0)},
		// once corner 0 is cut off, there is no dent at 1 and 7 any more
		{star(), threes(5, 5, 6, 0, 7, 5, 5, 5, 7, 5, 12, 6, 5, 5, 12, 6, 7, 7, 5, 5, 7, 7, 6, 12, 5, 5, 6, 12, 5, 7, 5, 7, 0, 6, 5, 5)},
		// corner 1 can be cut off only when 0 and 2 to 4 have been
		{comb(), threes(0, 4, 0, 0, 3, 0, 3, 0, 6, 0, 6, 4, 3, 0, 6, 4, 4, 4, 3, 0, 4, 4, 3, 1, 0, 4, 3, 0, 3, 1, 3, 1, 2, 4, 0, 4)},
	} {
		triangles, e := pattern.Triangles(x.piece)
		same(t, "Triangles", triangles, e, x.triangles, api.OK)
	}
}

// P13.6: Divisions.
func TestDivisions(t *testing.T) {
	for _, x := range []struct {
		piece []pattern.Point
		count int
	}{
		{at(0, 0, 1, 0, 0, 1), 1},
		{exampleQ(), 2},
		{arrow(), 1},
		{lined(), 1},
		{at(0, 0, 2, 0, 3, 1, 1, 3, 0, 2), 5},
		{at(0, 0, 2, 0, 3, 1, 3, 3, 1, 3, 0, 2), 14},
		{round()[:7], 42},
		{round(), 132},
		// of the 14 of six corners without a dent, those without the cuts 0 2, 2 4 or 4 0
		{at(0, 0, 1, 0, 2, 0, 1, 1, 0, 2, 0, 1), 4},
		// all others are seen from the corner 0, and these from each other only if they are next to each other
		{at(0, 0, 12, 0, 8, 1, 7, 2, 6, 4), 1},
	} {
		count, e := pattern.Divisions(x.piece)
		sameNumber(t, "Divisions", count, e, x.count, api.OK)
	}
}

// P13.7: Sheared.
func TestSheared(t *testing.T) {
	for _, x := range []struct {
		piece   []pattern.Point
		by      int
		upright bool
		want    []pattern.Point
		e       api.Errno
	}{
		{exampleL(), 0, false, exampleL(), api.OK},
		{exampleL(), 0, true, exampleL(), api.OK},
		{exampleL(), 2, false, at(0, 0, 4, 0, 8, 2, 6, 2, 10, 4, 8, 4), api.OK},
		{exampleL(), 2, true, at(0, 0, 4, 8, 4, 10, 2, 6, 2, 8, 0, 4), api.OK},
		{exampleL(), 3, false, nil, api.ErrClash},
		{exampleL(), 3, true, nil, api.ErrClash},
		{at(9, 1, 10, 1, 9, 0), 3, false, nil, api.ErrClash},
		{at(9, 1, 8, 1, 9, 0), 3, false, at(12, 1, 11, 1, 9, 0), api.OK},
		{at(4, 0, 12, 0, 10, 2, 6, 2), -3, false, at(4, 0, 12, 0, 4, 2, 0, 2), api.OK},
		{at(4, 0, 12, 0, 10, 2, 5, 2), -3, false, nil, api.ErrClash},
		{at(0, 4, 0, 12, 2, 10, 2, 6), -3, true, at(0, 4, 0, 12, 2, 4, 2, 0), api.OK},
		{at(0, 4, 0, 12, 2, 10, 2, 5), -3, true, nil, api.ErrClash},
		{at(0, 4, 0, 12, 1, 12, 2, 6), 1, true, nil, api.ErrClash},
		{at(12, 12, 11, 11, 12, 11), -1, false, at(0, 12, 0, 11, 1, 11), api.OK},
		{at(12, 12, 11, 12, 12, 11), -1, false, nil, api.ErrClash},
		{exampleQ(), 4, true, nil, api.ErrRange},
		{exampleQ(), -4, false, nil, api.ErrRange},
		{exampleQ(), math.MinInt, true, nil, api.ErrRange},
		{exampleQ(), math.MaxInt, false, nil, api.ErrRange},
	} {
		moved, e := pattern.Sheared(x.piece, x.by, x.upright)
		same(t, "Sheared", moved, e, x.want, x.e)
	}
}

// P13.8: Hull.
func TestHull(t *testing.T) {
	for _, x := range []struct {
		points, hull []pattern.Point
	}{
		{at(0, 0, 1, 0, 0, 1), at(0, 0, 1, 0, 0, 1)},
		{at(0, 1, 1, 0, 0, 0), at(0, 0, 1, 0, 0, 1)},
		{at(5, 0, 5, 1, 5, 2, 6, 1), at(5, 0, 6, 1, 5, 2)},
		{at(6, 0, 6, 1, 6, 2, 5, 1), at(5, 1, 6, 0, 6, 2)},
		{at(0, 0, 1, 1, 2, 2, 3, 3, 4, 4, 5, 5, 6, 6, 7, 8), at(0, 0, 6, 6, 7, 8)},
		{at(1, 1, 0, 1, 1, 2, 2, 1, 1, 0), at(0, 1, 1, 0, 2, 1, 1, 2)},
		{arrow(), at(0, 0, 6, 2, 0, 4)},
		{lined(), at(0, 0, 4, 0, 4, 4)},
		{star(), at(0, 6, 6, 0, 12, 6, 6, 12)},
		{round(), at(0, 2, 2, 0, 4, 0, 6, 2, 6, 4, 4, 6, 2, 6, 0, 4)},
		{comb(), at(0, 0, 6, 0, 6, 4, 0, 4)},
		{at(12, 12, 0, 12, 12, 0, 0, 0), whole()},
		// the points cross, or are on a side: no piece, but they have a hull
		{at(0, 0, 2, 2, 2, 0, 0, 2), exampleQ()},
		{at(0, 0, 4, 0, 4, 4, 2, 0, 0, 4), at(0, 0, 4, 0, 4, 4, 0, 4)},
	} {
		hull, e := pattern.Hull(x.points)
		same(t, "Hull", hull, e, x.hull, api.OK)
	}
}

// P13.8: Hull of points that have none.
func TestNoHull(t *testing.T) {
	for _, x := range wrongPoints() {
		hull, e := pattern.Hull(x.piece)
		same(t, "Hull of wrong points", hull, e, nil, x.e)
	}
	for _, points := range [][]pattern.Point{
		at(0, 0, 1, 1, 2, 2),
		at(2, 2, 0, 0, 1, 1),
		at(3, 0, 2, 0, 1, 0, 7, 0),
		at(0, 12, 0, 3, 0, 0, 0, 5, 0, 4, 0, 1, 0, 2, 0, 11),
		at(0, 9, 3, 7, 12, 1, 6, 5),
	} {
		hull, e := pattern.Hull(points)
		same(t, "Hull of a straight line", hull, e, nil, api.ErrShape)
	}
}

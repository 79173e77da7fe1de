package pattern_test

// The rules of DOC.md for this layer, which has no objects, texts or files, and leaves no result free.

import (
	"math"
	"reflect"
	"slices"
	"testing"

	"aigrette/api"
	"aigrette/pattern"
)

// call is a function with arguments: its results, the error last.
type call struct {
	name    string
	results func() []any
}

// callsOfPiece returns the calls of all functions of a piece.
func callsOfPiece(piece []pattern.Point, p pattern.Point, a, b, by int, upright bool) []call {
	return []call{
		{"Check", func() []any { e := pattern.Check(piece); return []any{e} }},
		{"Area", func() []any { doubled, turn, e := pattern.Area(piece); return []any{doubled, turn, e} }},
		{"Edge", func() []any { l, e := pattern.Edge(piece); return []any{l, e} }},
		{"Inside", func() []any { l, e := pattern.Inside(piece); return []any{l, e} }},
		{"Where", func() []any { n, e := pattern.Where(piece, p); return []any{n, e} }},
		{"Small", func() []any { small, e := pattern.Small(piece); return []any{small, e} }},
		{"Cuts", func() []any { l, e := pattern.Cuts(piece); return []any{l, e} }},
		{"Cut", func() []any { one, two, e := pattern.Cut(piece, a, b); return []any{one, two, e} }},
		{"Ears", func() []any { l, e := pattern.Ears(piece); return []any{l, e} }},
		{"Triangles", func() []any { l, e := pattern.Triangles(piece); return []any{l, e} }},
		{"Divisions", func() []any { n, e := pattern.Divisions(piece); return []any{n, e} }},
		{"Sheared", func() []any { l, e := pattern.Sheared(piece, by, upright); return []any{l, e} }},
	}
}

// calls returns the calls of all functions.
func calls(piece []pattern.Point, p pattern.Point, a, b, by int, upright bool) []call {
	hull := call{"Hull", func() []any { l, e := pattern.Hull(piece); return []any{l, e} }}
	return append(callsOfPiece(piece, p, a, b, by, upright), hull)
}

// extreme returns numbers of which many are out of bounds.
func extreme() []int {
	return list(math.MinInt, -1<<32, -4, -3, -1, 0, 1, 2, 3, 4, 7, 8, 12, 13, 1<<32, math.MaxInt)
}

// manyPieces returns pieces, and lists that are none.
func manyPieces() [][]pattern.Point {
	many := rightPieces()
	for _, x := range slices.Concat(wrongPoints(), wrongShapes()) {
		many = append(many, x.piece)
	}
	for corners := 3; corners <= 8; corners++ {
		draw := seeds(corners)
		for width := 4; width <= 13; width += 3 {
			many = append(many, drawnPiece(draw, corners, width))
		}
	}
	return many
}

// everyCall calls do with the calls of all functions with many arguments, many of them invalid.
func everyCall(do func(call call, arguments ...any)) {
	for i, piece := range manyPieces() {
		for j, a := range extreme() {
			b := extreme()[(i+3*j)%len(extreme())]
			by := extreme()[(i+5*j)%len(extreme())]
			p := pattern.Point{X: extreme()[(i+7*j)%len(extreme())], Y: extreme()[(i+j)%len(extreme())]}
			for _, call := range calls(piece, p, a, b, by, j%2 == 0) {
				do(call, piece, p, a, b, by, j%2 == 0)
			}
		}
	}
	// points that are not on the grid by far
	for i, x := range extreme() {
		for j, y := range extreme() {
			z := extreme()[(3*i+5*j)%len(extreme())]
			piece := at(x, y, y, z, z, x)
			for _, call := range calls(piece, pattern.Point{X: x, Y: y}, x, y, z, true) {
				do(call, piece)
			}
		}
	}
}

// P1, R5, F8: each call returns, and returns the same again.
func TestSameAgain(t *testing.T) {
	everyCall(func(call call, arguments ...any) {
		if one, two := call.results(), call.results(); !reflect.DeepEqual(one, two) {
			t.Errorf("%s%v: %v, then %v", call.name, arguments, one, two)
		}
	})
}

// R1: where several errors apply, the one that the chapter names first counts.
func TestFirstError(t *testing.T) {
	crossing := at(0, 0, 2, 2, 2, 0, 0, 2)
	_, where := pattern.Where(crossing, pattern.Point{X: 13})
	_, _, none := pattern.Cut(crossing, -1, 0)
	_, _, same := pattern.Cut(exampleQ(), 5, 5)
	_, _, other := pattern.Cut(exampleL(), 1, 6)
	_, by := pattern.Sheared(crossing, 4, false)
	_, far := pattern.Sheared(exampleQ(), -4, false)
	_, hull := pattern.Hull(at(0, 0, 1, 1, 2, 2, 1, 1))
	_, twice := pattern.Hull(at(0, 0, 1, 1, 1, 1, 13, 13))
	for _, x := range []struct {
		name      string
		got, want api.Errno
	}{
		{"empty before range", pattern.Check(at(0, 0, 0, 13)), api.ErrEmpty},
		{"empty before twice", pattern.Check(at(0, 0, 0, 0)), api.ErrEmpty},
		{"many before range", pattern.Check(slices.Repeat(at(0, 13), 9)), api.ErrMany},
		{"range before twice", pattern.Check(at(0, 13, 0, 13, 0, 0)), api.ErrRange},
		{"twice of the second point before range of the third one", pattern.Check(at(0, 0, 0, 0, 0, 13)), api.ErrTwice},
		{"range of the second point before twice of the third one", pattern.Check(at(0, 0, 0, 13, 0, 0)), api.ErrRange},
		{"range before shape", pattern.Check(at(0, 0, 1, 1, 2, 2, 3, 13)), api.ErrRange},
		{"twice before shape", pattern.Check(at(0, 0, 1, 1, 2, 2, 1, 1)), api.ErrTwice},
		{"the error of Check before the range of Where", where, api.ErrShape},
		{"the error of Check before none of Cut", none, api.ErrShape},
		{"none before clash of Cut", same, api.ErrNone},
		{"none of the other corner of Cut", other, api.ErrNone},
		{"the error of Check before the range of Sheared", by, api.ErrShape},
		{"range before clash of Sheared", far, api.ErrRange},
		{"twice before shape of Hull", hull, api.ErrTwice},
		{"twice of the third point before range of the fourth one of Hull", twice, api.ErrTwice},
	} {
		sameError(t, x.name, x.got, x.want)
	}
}

// zero tells whether a result is a zero value, or a list without elements.
func zero(result any) bool {
	v := reflect.ValueOf(result)
	return v.IsZero() || v.Kind() == reflect.Slice && v.Len() == 0
}

// R2: besides an error all results are zero values.
func TestZeroBesidesError(t *testing.T) {
	everyCall(func(call call, arguments ...any) {
		results := call.results()
		last := len(results) - 1
		if results[last] != api.OK && slices.ContainsFunc(results[:last], func(r any) bool { return !zero(r) }) {
			t.Errorf("%s%v: %v", call.name, arguments, results)
		}
	})
}

// R3: lists without elements are equal, nil or not.
func TestEmptyLists(t *testing.T) {
	others := calls([]pattern.Point{}, pattern.Point{}, 0, 1, 1, true)
	for i, call := range calls(nil, pattern.Point{}, 0, 1, 1, true) {
		one, other := call.results(), others[i].results()
		last := len(one) - 1
		if one[last] != api.ErrEmpty || other[last] != api.ErrEmpty {
			t.Errorf("R3: %s: %v, %v", call.name, one, other)
		}
	}
}

// overwrite changes all elements of a result, and what is behind them in its memory.
func overwrite(result any) {
	odd := pattern.Point{X: 77, Y: 78}
	switch l := result.(type) {
	case []int:
		fill(l, 77)
	case []pattern.Point:
		fill(l, odd)
	case [][2]int:
		fill(l, [2]int{77, 78})
	case [][3]pattern.Point:
		fill(l, [3]pattern.Point{odd, odd, odd})
	}
}

// fill sets all elements of a list, and what is behind them in its memory.
func fill[T any](l []T, with T) {
	l = l[:cap(l)]
	for i := range l {
		l[i] = with
	}
}

// roomy returns a copy of points with room behind them.
func roomy(l []pattern.Point) []pattern.Point {
	return append(make([]pattern.Point, 0, len(l)+5), l...)
}

// checkOwnResults checks that no result of a call changes one of another call, or another one of the same call.
func checkOwnResults(t *testing.T, call call, arguments ...any) {
	t.Helper()
	before, earlier := call.results(), call.results()
	for i := range before {
		results := call.results()
		overwrite(results[i])
		results[i] = before[i]
		if !reflect.DeepEqual(results, before) {
			t.Errorf("R4: %s%v: %v, then %v", call.name, arguments, before, results)
		}
	}
	if again := call.results(); !reflect.DeepEqual(again, before) || !reflect.DeepEqual(earlier, before) {
		t.Errorf("R4: %s%v: %v, then %v", call.name, arguments, before, again)
	}
}

// R4: results share no memory with arguments or other results, and arguments stay.
func TestOwnMemory(t *testing.T) {
	for i, piece := range manyPieces() {
		own := roomy(piece)
		given := slices.Clone(own[:cap(own)])
		for a := range 8 {
			for b := range 8 {
				for _, call := range calls(own, pattern.Point{X: a, Y: b}, a, b, (a+b+i)%7-3, i%2 == 0) {
					checkOwnResults(t, call, piece, a, b)
					if !slices.Equal(given, own[:cap(own)]) {
						t.Fatalf("R4: %s changed its argument: %v, before %v", call.name, own, given)
					}
				}
			}
		}
	}
}

// R4: a piece that is not moved at all is another list.
func TestOwnMemoryOfUnmoved(t *testing.T) {
	piece := exampleQ()
	moved := checked[[]pattern.Point](t, "Sheared")(pattern.Sheared(piece, 0, true))
	hull := hullCorners(t, piece)
	piece[0] = pattern.Point{X: 7, Y: 7}
	same(t, "R4: Sheared by 0", moved, api.OK, exampleQ(), api.OK)
	same(t, "R4: Hull", hull, api.OK, exampleQ(), api.OK)
}

// R6: points, corners and cuts ascend, and the corners of a hull begin with the smallest.
func TestAscending(t *testing.T) {
	for _, piece := range pieces() {
		for _, points := range [][]pattern.Point{edgePoints(t, piece), insidePoints(t, piece)} {
			if !slices.IsSortedFunc(points, comparePoints) {
				t.Errorf("R6: points of %v: %v", piece, points)
			}
		}
		ears := checked[[]int](t, "Ears")(pattern.Ears(piece))
		cuts := cutPairs(t, piece)
		if !slices.IsSorted(ears) || !slices.IsSortedFunc(cuts, func(a, b [2]int) int { return slices.Compare(a[:], b[:]) }) {
			t.Errorf("R6: %v: %v %v", piece, ears, cuts)
		}
		if hull := hullCorners(t, piece); hull[0] != slices.MinFunc(hull, comparePoints) {
			t.Errorf("R6: Hull of %v: %v", piece, hull)
		}
	}
}

// R7: bounds include both ends.
func TestBothEnds(t *testing.T) {
	for number := -3; number <= 15; number++ {
		wanted := api.OK
		if number < 0 || number > pattern.MaxSide {
			wanted = api.ErrRange
		}
		for _, p := range at(number, 0, 0, number, number, 12, 12, number) {
			_, where := pattern.Where(exampleQ(), p)
			sameError(t, "R7: Where", where, wanted)
		}
		for _, piece := range [][]pattern.Point{at(number, 5, 7, 9, 4, 4), at(9, 7, 5, number, 4, 4)} {
			_, hull := pattern.Hull(piece)
			sameError(t, "R7: Hull", hull, wanted)
			sameError(t, "R7: Check", pattern.Check(piece), wanted)
		}
	}
	for by := -9; by <= 9; by++ {
		wanted := api.OK
		if by < -3 || by > 3 {
			wanted = api.ErrRange
		}
		_, right := pattern.Sheared(at(4, 0, 5, 0, 5, 1), by, false)
		_, upright := pattern.Sheared(at(0, 4, 0, 5, 1, 5), by, true)
		sameError(t, "R7: Sheared", right, wanted)
		sameError(t, "R7: Sheared upright", upright, wanted)
	}
	for corner := -2; corner <= 10; corner++ {
		_, _, a := pattern.Cut(round(), corner, (corner+12)%8)
		_, _, b := pattern.Cut(round(), (corner+12)%8, corner)
		if is := corner >= 0 && corner <= 7; is != (a == api.OK) || is != (b == api.OK) {
			t.Errorf("R7: Cut at corner %d: %d %d", corner, a, b)
		}
	}
}

// R7: pieces have from 3 to MaxCorners corners.
func TestNumberOfCorners(t *testing.T) {
	points := append(round(), at(0, 3)...)
	for corners := range len(points) + 1 {
		wanted := api.OK
		if corners < 3 {
			wanted = api.ErrEmpty
		} else if corners > pattern.MaxCorners {
			wanted = api.ErrMany
		}
		_, hull := pattern.Hull(points[:corners])
		sameError(t, "R7: Check", pattern.Check(points[:corners]), wanted)
		sameError(t, "R7: Hull", hull, wanted)
	}
}

// The limits that the chapter names.
func TestLimits(t *testing.T) {
	if pattern.MaxSide != 12 || pattern.MaxCorners != 8 {
		t.Errorf("limits: %d %d", pattern.MaxSide, pattern.MaxCorners)
	}
}

package pattern_test

// All results compared with what the chapter's definitions alone say.

import (
	"slices"
	"sync"
	"testing"

	"aigrette/api"
	"aigrette/pattern"
)

// seeds returns numbers that look as if they were drawn.
func seeds(seed int) func(bound int) int {
	state := uint32(seed*7919 + 17)
	return func(bound int) int {
		state = state*1664525 + 1013904223
		return int(state>>16) % bound
	}
}

// line is a straight line from one point to another one.
type line struct{ from, to pattern.Point }

// along returns the point that is so many times as far from the first end of a line as the second end is.
func (l line) along(times int) pattern.Point {
	return pattern.Point{X: l.from.X + times*(l.to.X-l.from.X), Y: l.from.Y + times*(l.to.Y-l.from.Y)}
}

// way returns how far two points are from each other, to the right and upwards.
func way(from, to pattern.Point) [2]int { return [2]int{to.X - from.X, to.Y - from.Y} }

// wide is the area between two ways, and far is how far one goes along the other.
func wide(a, b [2]int) int { return a[0]*b[1] - a[1]*b[0] }
func far(a, b [2]int) int  { return a[0]*b[0] + a[1]*b[1] }

// within tells whether a fraction is from 0 to 1.
func within(part, parts int) bool {
	return part*parts >= 0 && part*parts <= parts*parts
}

// common returns how many points two lines have in common: none, one, or two for many. If it is one, it is where
// the first line has been followed for this part of so many parts of it.
func (l line) common(other line) (count, part, parts int) {
	along, across, between := way(l.from, l.to), way(other.from, other.to), way(l.from, other.from)
	if parts = wide(along, across); parts != 0 {
		if within(wide(between, across), parts) && within(wide(between, along), parts) {
			return 1, wide(between, across), parts
		}
		return 0, 0, 0
	}
	if wide(between, along) != 0 {
		return 0, 0, 0
	}
	parts = far(along, along)
	one, two := far(way(l.from, other.from), along), far(way(l.from, other.to), along)
	first, last := max(0, min(one, two)), min(parts, max(one, two))
	if first < last {
		return 2, 0, 0
	}
	if first == last {
		return 1, first, parts
	}
	return 0, 0, 0
}

func sidesOf(piece []pattern.Point) []line {
	var sides []line
	for i, corner := range piece {
		sides = append(sides, line{corner, piece[(i+1)%len(piece)]})
	}
	return sides
}

// isSimple tells whether a piece is simple.
func isSimple(piece []pattern.Point) bool {
	sides := sidesOf(piece)
	for i := range sides {
		for j := range i {
			if piece[i] == piece[j] {
				return false
			}
			// sides next to each other have a corner in common
			wanted := 0
			if i == j+1 || i == j+len(sides)-1 {
				wanted = 1
			}
			if count, _, _ := sides[i].common(sides[j]); count != wanted {
				return false
			}
		}
	}
	return true
}

// errorOfPoints returns the error of points, whatever their order.
func errorOfPoints(points []pattern.Point) api.Errno {
	if len(points) <= 2 {
		return api.ErrEmpty
	}
	if len(points) >= 9 {
		return api.ErrMany
	}
	for i, p := range points {
		if min(p.X, p.Y) < 0 || max(p.X, p.Y) > 12 {
			return api.ErrRange
		}
		for _, other := range points[:i] {
			if other == p {
				return api.ErrTwice
			}
		}
	}
	return api.OK
}

// errorOf returns the error of a piece.
func errorOf(piece []pattern.Point) api.Errno {
	if e := errorOfPoints(piece); e != api.OK {
		return e
	}
	if !isSimple(piece) {
		return api.ErrShape
	}
	return api.OK
}

// enclosed returns the doubled area that an edge encloses, and the turn. Between two neighbouring X no sides begin
// or end, and the lowest of them leads to the right if the corners follow each other anticlockwise.
func enclosed(piece []pattern.Point) (doubled, turn int) {
	// a multiple of all differences of two X
	const parts = 27720
	for x := range 12 {
		var heights []int
		turns := map[int]int{}
		for _, side := range sidesOf(piece) {
			w := way(side.from, side.to)
			if min(side.from.X, side.to.X) > x || max(side.from.X, side.to.X) <= x {
				continue
			}
			height := 2*parts*side.from.Y + w[1]*(2*x+1-2*side.from.X)*(parts/w[0])
			heights = append(heights, height)
			turns[height] = 1
			if w[0] < 0 {
				turns[height] = -1
			}
		}
		slices.Sort(heights)
		for pair := range slices.Chunk(heights, 2) {
			doubled += pair[1] - pair[0]
			turn = turns[pair[0]]
		}
	}
	return doubled / parts, turn
}

// gridOn returns the points of the grid on a line.
func gridOn(l line) []pattern.Point {
	w := way(l.from, l.to)
	parts := 12
	for w[0]%parts != 0 || w[1]%parts != 0 {
		parts--
	}
	var points []pattern.Point
	for part := range parts + 1 {
		points = append(points, pattern.Point{X: l.from.X + w[0]/parts*part, Y: l.from.Y + w[1]/parts*part})
	}
	return points
}

// isEnclosed tells whether an edge encloses a point that is not on it: a line from it that ends far away, and meets
// no corner, since there is no point of the grid on it, has an odd number of points in common with the edge.
func isEnclosed(piece []pattern.Point, p pattern.Point) bool {
	odd := false
	for _, side := range sidesOf(piece) {
		count, _, _ := line{p, pattern.Point{X: p.X + 1000, Y: p.Y + 1}}.common(side)
		odd = odd != (count == 1)
	}
	return odd
}

// edgeOf returns the points on the edge, in no order, the corners twice.
func edgeOf(piece []pattern.Point) []pattern.Point {
	var points []pattern.Point
	for _, side := range sidesOf(piece) {
		points = append(points, gridOn(side)...)
	}
	return points
}

// placesOf returns the points that are neither on the edge nor inside, those on the edge, and those inside, as far as
// they are among some points.
func placesOf(piece, points []pattern.Point) [3][]pattern.Point {
	var places [3][]pattern.Point
	edge := edgeOf(piece)
	for _, p := range points {
		place := 0
		if slices.Contains(edge, p) {
			place = 1
		} else if isEnclosed(piece, p) {
			place = 2
		}
		places[place] = append(places[place], p)
	}
	return places
}

// grid returns all points of the grid, in ascending order.
func grid() []pattern.Point {
	var points []pattern.Point
	for number := range 169 {
		points = append(points, pattern.Point{X: number / 13, Y: number % 13})
	}
	return points
}

// isCut tells whether two corners are a cut. Three points of their line are looked at, on a grid with four times as
// many points in each direction.
func isCut(piece []pattern.Point, a, b int) bool {
	l := line{piece[a], piece[b]}
	for _, side := range sidesOf(piece) {
		count, part, parts := l.common(side)
		if count == 2 || count == 1 && part != 0 && part != parts {
			return false
		}
	}
	var large []pattern.Point
	for _, corner := range piece {
		large = append(large, line{pattern.Point{}, corner}.along(4))
	}
	for quarters := 1; quarters < 4; quarters++ {
		w := way(l.from, l.to)
		p := line{pattern.Point{}, l.from}.along(4)
		if !isEnclosed(large, pattern.Point{X: p.X + quarters*w[0], Y: p.Y + quarters*w[1]}) {
			return false
		}
	}
	return true
}

// cutsOf returns all cuts.
func cutsOf(piece []pattern.Point) [][2]int {
	var cuts [][2]int
	for a := range piece {
		for b := a + 1; b < len(piece); b++ {
			if isCut(piece, a, b) {
				cuts = append(cuts, [2]int{a, b})
			}
		}
	}
	return cuts
}

// earsOf returns the corners that can be cut off.
func earsOf(piece []pattern.Point) []int {
	var ears []int
	n := len(piece)
	for i := range n {
		if n == 3 || isCut(piece, (i+n-1)%n, (i+1)%n) {
			ears = append(ears, i)
		}
	}
	return ears
}

// trianglesOf returns the triangles that are cut off one after the other.
func trianglesOf(piece []pattern.Point) [][3]pattern.Point {
	if len(piece) == 3 {
		return [][3]pattern.Point{[3]pattern.Point(piece)}
	}
	n, ear := len(piece), earsOf(piece)[0]
	rest := slices.Concat(piece[:ear], piece[ear+1:])
	first := [3]pattern.Point{piece[(ear+n-1)%n], piece[ear], piece[(ear+1)%n]}
	return append([][3]pattern.Point{first}, trianglesOf(rest)...)
}

// divided returns the corners of the parts into which cuts divide a piece of so many corners.
func divided(corners int, cuts [][2]int) [][]int {
	var whole []int
	for corner := range corners {
		whole = append(whole, corner)
	}
	parts := [][]int{whole}
	for _, cut := range cuts {
		i := slices.IndexFunc(parts, func(part []int) bool {
			return slices.Contains(part, cut[0]) && slices.Contains(part, cut[1])
		})
		part := parts[i]
		a, b := slices.Index(part, cut[0]), slices.Index(part, cut[1])
		parts[i] = part[a : b+1]
		parts = append(parts, slices.Concat(part[:a+1], part[b:]))
	}
	return parts
}

// setsOf calls do with all sets of cuts none of which has a point in common with another one, but for corners.
func setsOf(piece []pattern.Point, do func(cuts [][2]int)) {
	all := cutsOf(piece)
	var choose func(first int, chosen [][2]int)
	choose = func(first int, chosen [][2]int) {
		do(chosen)
		for i := first; i < len(all); i++ {
			if !slices.ContainsFunc(chosen, func(cut [2]int) bool { return clash(piece, cut, all[i]) }) {
				choose(i+1, append(slices.Clone(chosen), all[i]))
			}
		}
	}
	choose(0, nil)
}

// clash tells whether two cuts have a point in common that is not a corner.
func clash(piece []pattern.Point, one, other [2]int) bool {
	count, part, parts := line{piece[one[0]], piece[one[1]]}.common(line{piece[other[0]], piece[other[1]]})
	return count == 2 || count == 1 && part != 0 && part != parts
}

// divisionsOf returns all divisions of a piece.
func divisionsOf(piece []pattern.Point) [][][2]int {
	var divisions [][][2]int
	setsOf(piece, func(cuts [][2]int) {
		if !slices.ContainsFunc(divided(len(piece), cuts), func(part []int) bool { return len(part) != 3 }) {
			divisions = append(divisions, cuts)
		}
	})
	return divisions
}

// isLeft tells whether one turns to the left at the second of three points.
func isLeft(a, b, c pattern.Point) bool { return wide(way(a, b), way(b, c)) > 0 }

// isHull tells whether a list of corners is a piece without a dent that has all points on its edge or inside.
func isHull(corners, points []pattern.Point) bool {
	n := len(corners)
	for i := range corners {
		if !isLeft(corners[i], corners[(i+1)%n], corners[(i+2)%n]) {
			return false
		}
	}
	return isSimple(corners) && len(placesOf(corners, points)[0]) == 0
}

func isBefore(a, b pattern.Point) bool { return a.X < b.X || a.X == b.X && a.Y < b.Y }

// hullsOf returns all pieces of so many of some points, the smallest first, that are without a dent and have all of
// the points on their edges or inside.
func hullsOf(points []pattern.Point, size int) [][]pattern.Point {
	var found [][]pattern.Point
	var choose func(corners []pattern.Point)
	choose = func(corners []pattern.Point) {
		if len(corners) == size {
			if isHull(corners, points) {
				found = append(found, corners)
			}
			return
		}
		for _, p := range points {
			if len(corners) > 0 && !isBefore(corners[0], p) || slices.Contains(corners, p) {
				continue
			}
			if n := len(corners); n < 2 || isLeft(corners[n-2], corners[n-1], p) {
				choose(append(slices.Clone(corners), p))
			}
		}
	}
	choose(nil)
	return found
}

// drawnPoint returns a point that looks as if it was drawn, of a grid with so many points in each direction.
func drawnPoint(draw func(bound int) int, width int) pattern.Point {
	x := draw(width)
	return pattern.Point{X: x, Y: draw(width)}
}

// drawnPoints returns so many points without any twice.
func drawnPoints(draw func(bound int) int, count, width int) []pattern.Point {
	var points []pattern.Point
	for len(points) < count {
		if p := drawnPoint(draw, width); !slices.Contains(points, p) {
			points = append(points, p)
		}
	}
	return points
}

// drawnPiece returns a piece that looks as if it was drawn.
func drawnPiece(draw func(bound int) int, corners, width int) []pattern.Point {
	for {
		if piece := drawnPoints(draw, corners, width); isSimple(piece) {
			return piece
		}
	}
}

// piecesFrom calls do with all pieces of so many corners that begin with some of them, on a grid with so many points
// in each direction.
func piecesFrom(begin []pattern.Point, corners, width int, do func(piece []pattern.Point)) {
	if len(begin) == corners {
		if isSimple(begin) {
			do(slices.Clone(begin))
		}
		return
	}
	for number := range width * width {
		p := pattern.Point{X: number / width, Y: number % width}
		if !slices.Contains(begin, p) && isFree(begin, p) {
			piecesFrom(append(slices.Clone(begin), p), corners, width, do)
		}
	}
}

// isFree tells whether a new side from the last one of some corners to a point has nothing but this corner in
// common with the sides before it.
func isFree(begin []pattern.Point, p pattern.Point) bool {
	for i := 1; i < len(begin); i++ {
		count, _, _ := line{begin[i-1], begin[i]}.common(line{begin[len(begin)-1], p})
		if count > 1 || count == 1 && i < len(begin)-1 {
			return false
		}
	}
	return true
}

// pieces returns all pieces of a grid with three points in each direction, all triangles and some of the pieces with
// four and five corners of one with four points, drawn ones of all sizes, and those of the other tests.
var pieces = sync.OnceValue(func() [][]pattern.Point {
	all := rightPieces()
	for corners := 3; corners <= 8; corners++ {
		piecesFrom(nil, corners, 3, func(piece []pattern.Point) { all = append(all, piece) })
		for width := 4; width <= 13; width++ {
			draw := seeds(corners*100 + width)
			for range 20 {
				all = append(all, drawnPiece(draw, corners, width))
			}
		}
	}
	for i, step := range list(1, 17, 97) {
		number := 0
		piecesFrom(nil, 3+i, 4, func(piece []pattern.Point) {
			if number++; number%step == 0 {
				all = append(all, piece)
			}
		})
	}
	return all
})

// P13.1: Check of all lists of up to five points of a grid with three points in each direction.
func TestCheckOfAllLists(t *testing.T) {
	lists := [][]pattern.Point{nil}
	for range 6 {
		var longer [][]pattern.Point
		for _, l := range lists {
			if e := pattern.Check(l); e != errorOf(l) {
				t.Fatalf("Check of %v: %d, want %d", l, e, errorOf(l))
			}
			for _, p := range grid() {
				if len(l) < 5 && max(p.X, p.Y) < 3 {
					longer = append(longer, append(slices.Clone(l), p))
				}
			}
		}
		lists = longer
	}
}

// P13.1: Check of all triangles of a larger grid, and all lists of three points at its ends and beyond.
func TestCheckOfTriangles(t *testing.T) {
	for _, numbers := range [][]int{list(0, 3, 4, 9, 12), list(-1, 0, 12, 13)} {
		var points []pattern.Point
		for _, x := range numbers {
			for _, y := range numbers {
				points = append(points, pattern.Point{X: x, Y: y})
			}
		}
		for _, a := range points {
			for _, b := range points {
				for _, c := range points {
					l := []pattern.Point{a, b, c}
					sameError(t, "Check", pattern.Check(l), errorOf(l))
				}
			}
		}
	}
}

// P13.1, P13.8: Check and Hull of drawn lists, most of which are no pieces.
func TestCheckOfDrawnLists(t *testing.T) {
	for seed := range 30000 {
		draw := seeds(seed)
		width := 3 + draw(11)
		var l []pattern.Point
		for range 1 + draw(9) {
			l = append(l, drawnPoint(draw, width))
		}
		if draw(4) == 0 {
			l[draw(len(l))].X = draw(16) - 1
		}
		if e := pattern.Check(l); e != errorOf(l) {
			t.Fatalf("Check of %v: %d, want %d", l, e, errorOf(l))
		}
		if _, e := pattern.Hull(l); e != api.ErrShape && e != errorOfPoints(l) {
			t.Fatalf("Hull of %v: %d, want %d", l, e, errorOfPoints(l))
		}
	}
}

// P13.1: Check of drawn lists of points none of which is there twice.
func TestCheckOfDrawnShapes(t *testing.T) {
	shapes := 0
	for seed := range 60000 {
		draw := seeds(seed)
		l := drawnPoints(draw, 3+draw(6), 3+draw(11))
		if e := pattern.Check(l); e != errorOf(l) {
			t.Fatalf("Check of %v: %d, want %d", l, e, errorOf(l))
		}
		if isSimple(l) {
			shapes++
		}
	}
	if shapes < 10000 {
		t.Errorf("only %d of the lists are pieces", shapes)
	}
}

// P13.1: Check of pieces of which one corner was moved, or two change places.
func TestCheckOfMovedCorners(t *testing.T) {
	draw := seeds(3)
	for _, piece := range pieces() {
		moved := slices.Clone(piece)
		moved[draw(len(moved))] = drawnPoint(draw, 5)
		sameError(t, "Check of a moved corner", pattern.Check(moved), errorOf(moved))
		moved = slices.Clone(piece)
		a, b := draw(len(moved)), draw(len(moved))
		moved[a], moved[b] = moved[b], moved[a]
		sameError(t, "Check of two corners that change places", pattern.Check(moved), errorOf(moved))
	}
}

// P13.2: Area.
func TestAreaOfPieces(t *testing.T) {
	for _, piece := range pieces() {
		doubled, turn := enclosed(piece)
		l, e := areaOf(piece)
		same(t, "Area", l, e, list(doubled, turn), api.OK)
	}
}

// P13.2, P13.3: Edge, Inside, Where and Small.
func TestPointsOfPieces(t *testing.T) {
	all := grid()
	for i, piece := range pieces() {
		places := placesOf(piece, all)
		// every ninth point, others for the next piece
		for place, points := range places {
			for j, p := range points {
				if (i+j)%9 == 0 {
					n, e := pattern.Where(piece, p)
					sameNumber(t, "Where", n, e, place, api.OK)
				}
			}
		}
		edge, e := pattern.Edge(piece)
		same(t, "Edge", edge, e, places[1], api.OK)
		inside, e := pattern.Inside(piece)
		same(t, "Inside", inside, e, places[2], api.OK)
		small, e := pattern.Small(piece)
		sameTruth(t, "Small", small, e, len(piece) == 3 && len(places[1]) == 3 && len(places[2]) == 0, api.OK)
	}
}

// P13.4: Cuts.
func TestCutsOfPieces(t *testing.T) {
	for _, piece := range pieces() {
		cuts, e := pattern.Cuts(piece)
		same(t, "Cuts", cuts, e, cutsOf(piece), api.OK)
	}
}

// P13.4: Cut, of all corners and some that are none.
func TestCutOfPieces(t *testing.T) {
	for _, piece := range pieces() {
		twice := slices.Concat(piece, piece)
		for a := -1; a <= len(piece); a++ {
			for b := -1; b <= len(piece); b++ {
				one, two, e := pattern.Cut(piece, a, b)
				if min(a, b) < 0 || max(a, b) == len(piece) {
					sameError(t, "Cut", e, api.ErrNone)
				} else if a == b || !isCut(piece, a, b) {
					sameError(t, "Cut", e, api.ErrClash)
				} else if a < b {
					same(t, "Cut", one, e, piece[a:b+1], api.OK)
					same(t, "Cut", two, e, twice[b:len(piece)+a+1], api.OK)
				} else {
					same(t, "Cut", one, e, twice[a:len(piece)+b+1], api.OK)
					same(t, "Cut", two, e, piece[b:a+1], api.OK)
				}
			}
		}
	}
}

// P13.5: Ears and Triangles.
func TestEarsOfPieces(t *testing.T) {
	for _, piece := range pieces() {
		ears, e := pattern.Ears(piece)
		same(t, "Ears", ears, e, earsOf(piece), api.OK)
		triangles, e := pattern.Triangles(piece)
		same(t, "Triangles", triangles, e, trianglesOf(piece), api.OK)
	}
}

// P13.6, P13.12: Divisions, each of which has three cuts less than there are corners.
func TestDivisionsOfPieces(t *testing.T) {
	for _, piece := range pieces() {
		divisions := divisionsOf(piece)
		count, e := pattern.Divisions(piece)
		sameNumber(t, "Divisions", count, e, len(divisions), api.OK)
		for _, cuts := range divisions {
			if len(cuts) != len(piece)-3 {
				t.Errorf("P13.12: %v: %v", piece, cuts)
			}
		}
	}
}

// P13.7: Sheared.
func TestShearedPieces(t *testing.T) {
	for _, piece := range pieces() {
		for by := -4; by <= 4; by++ {
			var right, upright []pattern.Point
			for _, p := range piece {
				right = append(right, pattern.Point{X: p.X + by*p.Y, Y: p.Y})
				upright = append(upright, pattern.Point{X: p.X, Y: p.Y + by*p.X})
			}
			checkSheared(t, piece, by, false, right)
			checkSheared(t, piece, by, true, upright)
		}
	}
}

// checkSheared compares a sheared piece with what it should be if all of it is on the grid.
func checkSheared(t *testing.T, piece []pattern.Point, by int, upright bool, want []pattern.Point) {
	t.Helper()
	wanted := api.OK
	if errorOfPoints(want) == api.ErrRange {
		want, wanted = nil, api.ErrClash
	}
	if by < -3 || by > 3 {
		want, wanted = nil, api.ErrRange
	}
	moved, e := pattern.Sheared(piece, by, upright)
	same(t, "Sheared", moved, e, want, wanted)
}

// checkHull compares a hull with the only one of all pieces that it can be.
func checkHull(t *testing.T, points []pattern.Point) {
	t.Helper()
	hull, e := pattern.Hull(points)
	for size := 3; size <= len(points); size++ {
		if found := hullsOf(points, size); len(found) > 0 {
			same(t, "Hull", hull, e, found[0], api.OK)
			if len(found) > 1 {
				t.Errorf("P13.8: %v: hulls %v", points, found)
			}
			return
		}
	}
	same(t, "Hull of a straight line", hull, e, nil, api.ErrShape)
	for i := 2; i < len(points); i++ {
		if wide(way(points[0], points[1]), way(points[0], points[i])) != 0 {
			t.Errorf("P13.8: %v has no hull", points)
		}
	}
}

// P13.8: Hull of all sets of points of a grid with three points in each direction, and of drawn points.
func TestHullOfPoints(t *testing.T) {
	var points []pattern.Point
	for _, p := range grid() {
		if max(p.X, p.Y) < 3 {
			points = append(points, p)
		}
	}
	for set := range 1 << len(points) {
		draw := seeds(set)
		var some []pattern.Point
		for i, p := range points {
			if set>>i&1 == 1 {
				some = slices.Insert(some, draw(len(some)+1), p)
			}
		}
		if len(some) >= 3 && len(some) <= 8 {
			checkHull(t, some)
		}
	}
	for seed := range 1500 {
		draw := seeds(seed)
		checkHull(t, drawnPoints(draw, 3+seed%6, 3+draw(11)))
	}
}

// P13.8: Hull of drawn points on a straight line, or nearly.
func TestHullOfStraightLines(t *testing.T) {
	for seed := range 1500 {
		draw := seeds(seed)
		ends := drawnPoints(draw, 2, 4)
		l := line{ends[0], ends[1]}
		var points []pattern.Point
		for times := -4; times <= 4; times++ {
			if p := l.along(times); min(p.X, p.Y) >= 0 && max(p.X, p.Y) <= 12 && len(points) < 7 {
				points = slices.Insert(points, draw(len(points)+1), p)
			}
		}
		if p := drawnPoint(draw, 13); seed%2 == 0 && !slices.Contains(points, p) {
			points = append(points, p)
		}
		if len(points) >= 3 {
			checkHull(t, points)
		}
	}
}

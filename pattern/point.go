package pattern

import (
	"cmp"
	"slices"
)

func (p Point) isOnGrid() bool {
	return p.X >= 0 && p.X <= MaxSide && p.Y >= 0 && p.Y <= MaxSide
}

// sheared returns where a point is moved to if its piece is sheared.
func (p Point) sheared(by int, upright bool) Point {
	if upright {
		return Point{p.X, p.Y + by*p.X}
	}
	return Point{p.X + by*p.Y, p.Y}
}

func comparePoints(p, q Point) int {
	return cmp.Or(cmp.Compare(p.X, q.X), cmp.Compare(p.Y, q.Y))
}

// hull returns the corners of the hull, anticlockwise from the smallest point on. It has only two if all points are
// on a straight line.
func hull(points []Point) []Point {
	ordered := slices.SortedFunc(slices.Values(points), comparePoints)
	below := leftTurns(ordered)
	slices.Reverse(ordered)
	above := leftTurns(ordered)
	return slices.Concat(below[:len(below)-1], above[:len(above)-1])
}

// leftTurns returns the first point, the last one, and as few of those between them as leave no point to the right
// of the way along them. The points are in ascending or descending order.
func leftTurns(points []Point) []Point {
	var way []Point
	for _, p := range points {
		for len(way) > 1 && (side{way[len(way)-2], way[len(way)-1]}).turn(p) <= 0 {
			way = way[:len(way)-1]
		}
		way = append(way, p)
	}
	return way
}

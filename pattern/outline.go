package pattern

import "cmp"

// outline is the corners of a piece, in the order in which its edge goes around.
type outline []Point

// Where a point lies.
const (
	outside = iota
	onEdge
	inside
)

// quarters tells in which quarter of a turn, anticlockwise from the right on, something lies, by the signs of how
// much higher it is, and how much further to the right, each increased by one.
var quarters = [3][3]int{
	{2, 3, 3},
	{2, 0, 0},
	{1, 1, 0},
}

// steps tells by how many quarters a straight line turns around a point if its end is so many quarters on from its
// beginning. Two quarters can be turned in either direction; the table has them anticlockwise.
var steps = [4]int{0, 1, 2, -1}

// quarter returns in which quarter of a turn a point is seen from another one.
func (p Point) quarter(from Point) int {
	return quarters[cmp.Compare(p.Y, from.Y)+1][cmp.Compare(p.X, from.X)+1]
}

// after returns the index of the corner after one.
func (o outline) after(corner int) int {
	return (corner + 1) % len(o)
}

// before returns the index of the corner before one.
func (o outline) before(corner int) int {
	return (corner + len(o) - 1) % len(o)
}

func (o outline) isCorner(index int) bool {
	return index >= 0 && index < len(o)
}

// side returns the side from a corner to the one after it.
func (o outline) side(corner int) side {
	return side{o[corner], o[o.after(corner)]}
}

// isSimple tells whether no sides meet, but each one with the next one at their corner.
func (o outline) isSimple() bool {
	for i := range o {
		for j := range i {
			next := o.after(i) == j || o.after(j) == i
			if next && !o.side(i).isNext(o.side(j)) || !next && !o.side(i).isApart(o.side(j)) {
				return false
			}
		}
	}
	return true
}

// area returns the doubled area and the turn. It adds the doubled areas of the triangles that each side makes with
// the point 0 0, less those of the sides that go around this point clockwise.
func (o outline) area() (doubled, turn int) {
	sum := 0
	for i := range o {
		s := o.side(i)
		sum += s.from.X*s.to.Y - s.to.X*s.from.Y
	}
	turn = cmp.Compare(sum, 0)
	return sum * turn, turn
}

// where returns where a point lies.
func (o outline) where(p Point) int {
	for i := range o {
		if o.side(i).has(p) {
			return onEdge
		}
	}
	if o.turnsAround(p) != 0 {
		return inside
	}
	return outside
}

// turnsAround returns by how many quarters of a turn the edge goes around a point that is not on it.
func (o outline) turnsAround(p Point) int {
	sum := 0
	for i := range o {
		s := o.side(i)
		step := steps[(s.to.quarter(p)-s.from.quarter(p)+4)%4]
		if step == 2 {
			step *= s.turn(p)
		}
		sum += step
	}
	return sum
}

// points returns all points of the grid that lie at a place.
func (o outline) points(place int) []Point {
	var found []Point
	for x := range MaxSide + 1 {
		for y := range MaxSide + 1 {
			if p := (Point{x, y}); o.where(p) == place {
				found = append(found, p)
			}
		}
	}
	return found
}

package pattern

import "slices"

// isCut tells whether two corners are a cut. A line that has only corners in common with the edge is enclosed by it
// if its middle is.
func (o outline) isCut(a, b int) bool {
	if a == b {
		return false
	}
	line := side{o[a], o[b]}
	for i := range o {
		if _, clash := line.meet(o.side(i)).(elsewhere); clash {
			return false
		}
	}
	return o.doubled().where(Point{o[a].X + o[b].X, o[a].Y + o[b].Y}) == inside
}

// doubled returns an outline twice as large, on which the middle of each line is a point of the grid.
func (o outline) doubled() outline {
	var large outline
	for _, corner := range o {
		large = append(large, Point{2 * corner.X, 2 * corner.Y})
	}
	return large
}

func (o outline) cuts() [][2]int {
	var cuts [][2]int
	for a := range o {
		for b := a + 1; b < len(o); b++ {
			if o.isCut(a, b) {
				cuts = append(cuts, [2]int{a, b})
			}
		}
	}
	return cuts
}

// part returns the corners from one on, up to another one.
func (o outline) part(first, last int) []Point {
	var corners []Point
	for at := first; at != last; at = o.after(at) {
		corners = append(corners, o[at])
	}
	return append(corners, o[last])
}

func (o outline) isEar(corner int) bool {
	return len(o) == 3 || o.isCut(o.before(corner), o.after(corner))
}

func (o outline) ears() []int {
	var ears []int
	for corner := range o {
		if o.isEar(corner) {
			ears = append(ears, corner)
		}
	}
	return ears
}

// triangles returns the triangles that are cut off. What is left is a piece, which has a corner that can be cut off
// (P13.10).
func (o outline) triangles() [][3]Point {
	var triangles [][3]Point
	rest := slices.Clone(o)
	for len(rest) > 3 {
		ear := rest.ears()[0]
		triangles = append(triangles, [3]Point{rest[rest.before(ear)], rest[ear], rest[rest.after(ear)]})
		rest = slices.Delete(rest, ear, ear+1)
	}
	return append(triangles, [3]Point(rest))
}

// divisions returns the number of divisions.
func (o outline) divisions() int {
	return o.divisionsOf(0, len(o)-1)
}

// divisionsOf returns the number of divisions of the part from one corner to another one, which are a side or a cut:
// in each of them that line belongs to one triangle, whose third corner divides the rest in two.
func (o outline) divisionsOf(first, last int) int {
	if last == first+1 {
		return 1
	}
	count := 0
	for third := first + 1; third < last; third++ {
		if o.isLine(first, third) && o.isLine(third, last) {
			count += o.divisionsOf(first, third) * o.divisionsOf(third, last)
		}
	}
	return count
}

// isLine tells whether two corners are a side or a cut. The first one is before the last one.
func (o outline) isLine(first, last int) bool {
	return last == first+1 || o.isCut(first, last)
}

package pattern

import (
	"cmp"
	"slices"
)

// side is the straight line between two different points.
type side struct {
	from, to Point
}

// meeting is what two sides have in common. Its method only keeps other types from being one.
type meeting interface{ isMeeting() }

// nowhere is the meeting of two sides that have no point in common.
type nowhere struct{}

// atCorner is a meeting in one point alone, which is an end of both sides.
type atCorner struct{}

// elsewhere is any other meeting: in one point that is not an end of both sides, or in many points.
type elsewhere struct{}

func (nowhere) isMeeting()   {}
func (atCorner) isMeeting()  {}
func (elsewhere) isMeeting() {}

// meet returns what two sides have in common. Where they do not cross, an end of one of them is a common point, and
// where they have many common points, two different ends are.
func (s side) meet(other side) meeting {
	mine, its := s.endsOn(other), other.endsOn(s)
	switch {
	case len(mine) == 1 && slices.Equal(mine, its):
		return atCorner{}
	case len(mine) > 0 || len(its) > 0 || s.crosses(other):
		return elsewhere{}
	}
	return nowhere{}
}

// isApart tells whether two sides have no point in common.
func (s side) isApart(other side) bool {
	_, apart := s.meet(other).(nowhere)
	return apart
}

// isNext tells whether two sides have only an end of both in common.
func (s side) isNext(other side) bool {
	_, next := s.meet(other).(atCorner)
	return next
}

// endsOn returns the ends of a side that are on another one.
func (s side) endsOn(other side) []Point {
	var ends []Point
	for _, end := range [2]Point{s.from, s.to} {
		if other.has(end) {
			ends = append(ends, end)
		}
	}
	return ends
}

// crosses tells whether two sides have one point in common that is an end of none.
func (s side) crosses(other side) bool {
	return s.turn(other.from)*s.turn(other.to) < 0 && other.turn(s.from)*other.turn(s.to) < 0
}

// has tells whether a point is on a side.
func (s side) has(p Point) bool {
	return s.turn(p) == 0 && isBetween(s.from.X, p.X, s.to.X) && isBetween(s.from.Y, p.Y, s.to.Y)
}

// turn returns 1 if a point is to the left of the straight line along a side, -1 if it is to the right, 0 if it is
// on it.
func (s side) turn(p Point) int {
	return cmp.Compare((s.to.X-s.from.X)*(p.Y-s.from.Y), (s.to.Y-s.from.Y)*(p.X-s.from.X))
}

// isBetween tells whether a number is one of two ends, or between them.
func isBetween(end, number, other int) bool {
	return min(end, other) <= number && number <= max(end, other)
}

package branch

import (
	"slices"
	"strings"
)

// shape returns a string for the shape of a tree: how it looks from its middle, where no other numbers of the
// knots change anything. If the middle has two knots, the first of both strings counts.
func (w work) shape() string {
	var views []string
	for _, knot := range w.middle() {
		views = append(views, w.view(knot, nowhere))
	}
	return slices.Min(views)
}

// nowhere is what a view comes from if it begins at its knot.
const nowhere = -1

// view returns how a tree looks from a knot, away from another one: in brackets, what hangs on this knot.
func (w work) view(knot, from int) string {
	var views []string
	for _, next := range w.neighbours(knot) {
		if next != from {
			views = append(views, w.view(next, knot))
		}
	}
	slices.Sort(views)
	return "(" + strings.Join(views, "") + ")"
}

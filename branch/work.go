package branch

// deed is what is done with a tree. Its method only keeps other types from being one.
type deed interface{ isDeed() }

// takeOff takes a knot off with all its ties.
type takeOff struct{ knot int }

// cut takes a tie away.
type cut struct{ tie [2]int }

// join ties two knots.
type join struct{ tie [2]int }

func (takeOff) isDeed() {}
func (cut) isDeed()     {}
func (join) isDeed()    {}

// work is a tree while something is done with it: the knots that are left, and which of them are tied.
type work struct {
	knots int
	left  [MaxKnots]bool
	tied  [MaxKnots][MaxKnots]bool
}

// loose returns knots without ties.
func loose(knots int) work {
	w := work{knots: knots}
	for knot := range knots {
		w.left[knot] = true
	}
	return w
}

func workOn(t Tree) work {
	w := loose(t.Knots)
	for _, tie := range t.Ties {
		w.do(join{tie})
	}
	return w
}

func (w *work) do(d deed) {
	switch d := d.(type) {
	case takeOff:
		for _, other := range w.neighbours(d.knot) {
			w.do(cut{[2]int{d.knot, other}})
		}
		w.left[d.knot] = false
	case cut:
		w.set(d.tie, false)
	case join:
		w.set(d.tie, true)
	}
}

// set notes on both sides whether two knots are tied.
func (w *work) set(tie [2]int, tied bool) {
	w.tied[tie[0]][tie[1]] = tied
	w.tied[tie[1]][tie[0]] = tied
}

func (w work) isTied(tie [2]int) bool {
	return w.tied[tie[0]][tie[1]]
}

// neighbours returns the knots that a knot is tied to, in ascending order.
func (w work) neighbours(knot int) []int {
	var others []int
	for other := range w.knots {
		if w.tied[knot][other] {
			others = append(others, other)
		}
	}
	return others
}

func (w work) degree(knot int) int {
	return len(w.neighbours(knot))
}

// outer returns the knots that are left with at most one tie, in ascending order.
func (w work) outer() []int {
	var knots []int
	for knot := range w.knots {
		if w.left[knot] && w.degree(knot) <= 1 {
			knots = append(knots, knot)
		}
	}
	return knots
}

// tidy returns the tidy tree with these ties.
func (w work) tidy() Tree {
	t := Tree{Knots: w.knots}
	for knot := range w.knots {
		for _, other := range w.neighbours(knot) {
			if knot < other {
				t.Ties = append(t.Ties, [2]int{knot, other})
			}
		}
	}
	return t
}

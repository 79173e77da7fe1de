package branch

import "slices"

// unmet is the distance of a knot that cannot be reached.
const unmet = -1

// distances returns the distance of each knot to one.
func (w work) distances(from int) []int {
	far := slices.Repeat([]int{unmet}, w.knots)
	far[from] = 0
	for met := []int{from}; len(met) > 0; met = met[1:] {
		for _, next := range w.neighbours(met[0]) {
			if far[next] == unmet {
				far[next] = far[met[0]] + 1
				met = append(met, next)
			}
		}
	}
	return far
}

// isWhole tells whether each knot can be reached from each other one.
func (w work) isWhole() bool {
	return !slices.Contains(w.distances(0), unmet)
}

// way returns the knots from one to another one, each nearer than the one before it.
func (w work) way(a, b int) []int {
	far := w.distances(b)
	way := []int{a}
	for at := a; at != b; {
		others := w.neighbours(at)
		nearer := slices.IndexFunc(others, func(other int) bool { return far[other] < far[at] })
		at = others[nearer]
		way = append(way, at)
	}
	return way
}

// reaches returns the reach of each knot.
func (w work) reaches() []int {
	reaches := make([]int, w.knots)
	for knot := range reaches {
		reaches[knot] = slices.Max(w.distances(knot))
	}
	return reaches
}

// middle returns all knots with the smallest reach.
func (w work) middle() []int {
	reaches := w.reaches()
	smallest := slices.Min(reaches)
	var middle []int
	for knot, reach := range reaches {
		if reach == smallest {
			middle = append(middle, knot)
		}
	}
	return middle
}

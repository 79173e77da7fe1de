package fan

import (
	"iter"

	"aigrette/api"
)

// rest returns the sum of all places of a fan, less the distances of all its kinds. In a full fan it is
// twice the sum of the first places, since each second place is the first one and the distance.
func rest(kinds int, wide bool) int {
	l := laid{kinds: kinds, wide: wide}
	sum := 0
	for place := range l.places() {
		sum += place
	}
	for kind := 1; kind <= kinds; kind++ {
		sum -= l.distance(kind)
	}
	return sum
}

// firstEmpty returns the first empty place, or the number of places if there is none.
func (l laid) firstEmpty() int {
	place := 0
	for place < l.places() && l.row[place] != empty {
		place++
	}
	return place
}

// completions yields all completions, in ascending order of their rows. At the first empty place just
// the first plume of a kind can be: all places ahead of it are taken.
func (l laid) completions() iter.Seq[laid] {
	return func(yield func(laid) bool) {
		place := l.firstEmpty()
		if place == l.places() {
			yield(l)
			return
		}
		for kind := 1; kind <= l.kinds; kind++ {
			next, e := l.put(kind, place)
			if e != api.OK {
				continue
			}
			for full := range next.completions() {
				if !yield(full) {
					return
				}
			}
		}
	}
}

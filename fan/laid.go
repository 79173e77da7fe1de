package fan

import (
	"slices"

	"aigrette/api"
)

// empty stands at a place where no kind stands.
const empty = 0

// row is what stands at the places of a fan. It is an array, so a copy of it is changed alone, and two
// of them are compared at once; the places past the last one of the fan stay empty.
type row [2 * MaxKinds]int

// laid is a fan that has no error.
type laid struct {
	kinds int
	wide  bool
	row   row
}

// lay returns a fan as it is kept here, or its error.
func lay(f Fan) (laid, api.Errno) {
	if f.Kinds < 1 || f.Kinds > MaxKinds {
		return laid{}, api.ErrRange
	}
	l := laid{kinds: f.Kinds, wide: f.Wide}
	if len(f.Plumes) != l.places() {
		return laid{}, api.ErrShape
	}
	for place, kind := range f.Plumes {
		if kind != empty && !l.isKind(kind) {
			return laid{}, api.ErrNone
		}
		l.row[place] = kind
	}
	for kind := 1; kind <= l.kinds; kind++ {
		if e := l.check(kind); e != api.OK {
			return laid{}, e
		}
	}
	return l, api.OK
}

// layWith returns a fan that has a kind.
func layWith(f Fan, kind int) (laid, api.Errno) {
	l, e := lay(f)
	if e != api.OK {
		return laid{}, e
	}
	if !l.isKind(kind) {
		return laid{}, api.ErrNone
	}
	if !l.row.has(kind) {
		return laid{}, api.ErrLost
	}
	return l, api.OK
}

// check returns the error of the places at which a kind stands.
func (l laid) check(kind int) api.Errno {
	at := placesOf(l.row[:], kind)
	switch {
	case len(at) > 2:
		return api.ErrMany
	case len(at) == 1:
		return api.ErrOpen
	case len(at) == 2 && at[1]-at[0] != l.distance(kind):
		return api.ErrClash
	}
	return api.OK
}

// fan returns what is laid as a fan with plumes of its own.
func (l laid) fan() Fan {
	return Fan{Kinds: l.kinds, Wide: l.wide, Plumes: slices.Clone(l.row[:l.places()])}
}

// places returns how many places there are.
func (l laid) places() int {
	return 2 * l.kinds
}

func (l laid) isKind(kind int) bool {
	return kind >= 1 && kind <= l.kinds
}

func (l laid) isPlace(place int) bool {
	return place >= 0 && place < l.places()
}

// distance returns by how much the second place of a kind is greater than the first one.
func (l laid) distance(kind int) int {
	if l.wide {
		return kind + 1
	}
	return kind
}

// both returns the places of a kind that is in the fan.
func (l laid) both(kind int) (first, second int) {
	first = slices.Index(l.row[:], kind)
	return first, first + l.distance(kind)
}

// between returns what stands between both places of a kind that is in the fan.
func (l laid) between(kind int) []int {
	first, second := l.both(kind)
	return slices.Clone(l.row[first+1 : second])
}

// put returns the fan with a kind, whose first plume is at a place.
func (l laid) put(kind, place int) (laid, api.Errno) {
	if l.row.has(kind) {
		return laid{}, api.ErrTwice
	}
	second := place + l.distance(kind)
	if !l.isPlace(second) {
		return laid{}, api.ErrOver
	}
	if l.row[place] != empty || l.row[second] != empty {
		return laid{}, api.ErrFull
	}
	l.row[place], l.row[second] = kind, kind
	return l, api.OK
}

// without returns the row without a kind.
func (r row) without(kind int) row {
	for place, stands := range r {
		if stands == kind {
			r[place] = empty
		}
	}
	return r
}

// has tells whether a kind is in the row: then taking it out leaves another row.
func (r row) has(kind int) bool {
	return r.without(kind) != r
}

// placesOf returns the places at which a kind stands.
func placesOf(plumes []int, kind int) []int {
	var places []int
	for place, stands := range plumes {
		if stands == kind {
			places = append(places, place)
		}
	}
	return places
}

package clasp

import "aigrette/api"

// bar is a position. It is an array, so a copy of it is moved alone, and two of them are compared at
// once; the places past the last ring stay off.
type bar struct {
	rings int
	on    [MaxRings]bool
}

// act is what can be done with a ring.
type act int

const (
	stay act = iota
	putOn
	takeOff
)

// laid returns a position as a bar.
func laid(position []int) (bar, api.Errno) {
	if e := Check(position); e != api.OK {
		return bar{}, e
	}
	b := bar{rings: len(position)}
	for ring, on := range position {
		b.on[ring] = on == 1
	}
	return b, api.OK
}

// laidBoth returns two positions of one clasp.
func laidBoth(from, to []int) (bar, bar, api.Errno) {
	a, e := laid(from)
	if e != api.OK {
		return bar{}, bar{}, e
	}
	b, e := laid(to)
	if e != api.OK {
		return bar{}, bar{}, e
	}
	if a.rings != b.rings {
		return bar{}, bar{}, api.ErrShape
	}
	return a, b, api.OK
}

// list returns a position as a list.
func (b bar) list() []int {
	position := make([]int, b.rings)
	for ring := range position {
		if b.on[ring] {
			position[ring] = 1
		}
	}
	return position
}

// act tells what can be done with a ring of the bar.
func (b bar) act(ring int) act {
	if ring > 0 && !b.firstOn(ring-1) {
		return stay
	}
	if b.on[ring] {
		return takeOff
	}
	return putOn
}

// firstOn tells whether a ring is on, and all rings ahead of it are off.
func (b bar) firstOn(ring int) bool {
	for _, ahead := range b.on[:ring] {
		if ahead {
			return false
		}
	}
	return b.on[ring]
}

// loose returns the rings that can be moved.
func (b bar) loose() []int {
	var rings []int
	for ring := range b.rings {
		if b.act(ring) != stay {
			rings = append(rings, ring)
		}
	}
	return rings
}

// moved returns the bar after a move.
func (b bar) moved(ring int) (bar, api.Errno) {
	if ring < 0 || ring >= b.rings {
		return bar{}, api.ErrNone
	}
	switch b.act(ring) {
	case putOn:
		b.on[ring] = true
	case takeOff:
		b.on[ring] = false
	default:
		return bar{}, api.ErrShut
	}
	return b, api.OK
}

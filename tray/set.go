package tray

import "math/bits"

// set is a tray as the set of its dyes: two of them are equal if they have the same dyes, and the one with
// the greatest dye that only one of them has is greater.
type set uint

// setOf returns the set of these dyes.
func setOf(dyes ...int) set {
	var s set
	for _, dye := range dyes {
		s = s.with(dye)
	}
	return s
}

// full returns the set of all dyes.
func full(dyes int) set {
	return 1<<dyes - 1
}

func (s set) has(dye int) bool {
	return s&setOf(dye) != 0
}

func (s set) with(dye int) set {
	return s | 1<<dye
}

// without returns the set without the dyes of another one.
func (s set) without(other set) set {
	return s &^ other
}

func (s set) size() int {
	return bits.OnesCount(uint(s))
}

// smallest returns the smallest dye of a set that is not empty.
func (s set) smallest() int {
	return bits.TrailingZeros(uint(s))
}

// greatest returns the greatest dye of a set that is not empty.
func (s set) greatest() int {
	return bits.Len(uint(s)) - 1
}

// isInside tells whether a tray contains this one.
func (s set) isInside(outer set) bool {
	return s != outer && s.without(outer) == 0
}

// isJustInside tells whether a tray with one dye more contains this one.
func (s set) isJustInside(outer set) bool {
	return s.isInside(outer) && s.size()+1 == outer.size()
}

// list returns the dyes in ascending order, in memory of their own.
func (s set) list() []int {
	var dyes []int
	for left := s; left != 0; left = left.without(setOf(left.smallest())) {
		dyes = append(dyes, left.smallest())
	}
	return dyes
}

package contest

import "slices"

// eachRow calls visit with each row that begins with these curlers, in ascending order, until it
// returns false; eachRow returns false then. The row that visit is given changes after the call.
func eachRow(row []int, curlers int, beat beaten, visit func(row []int) bool) bool {
	if len(row) == curlers {
		return visit(row)
	}
	for next := range curlers {
		if slices.Contains(row, next) || len(row) > 0 && !beat(row[len(row)-1], next) {
			continue
		}
		if !eachRow(append(row, next), curlers, beat, visit) {
			return false
		}
	}
	return true
}

// firstRow returns the first row that is wanted, or nothing.
func firstRow(curlers int, beat beaten, wanted func(row []int) bool) []int {
	var first []int
	eachRow(nil, curlers, beat, func(row []int) bool {
		if !wanted(row) {
			return true
		}
		first = slices.Clone(row)
		return false
	})
	return first
}

func countRows(curlers int, beat beaten) int {
	rows := 0
	eachRow(nil, curlers, beat, func([]int) bool {
		rows++
		return true
	})
	return rows
}

// countThrees returns the number of sets of three, each of whom beat one of the two others.
func countThrees(curlers int, beat beaten) int {
	threes := 0
	for c := range curlers {
		for b := range c {
			for a := range b {
				// They go round in one of the two directions.
				if beat(a, b) == beat(b, c) && beat(b, c) == beat(c, a) {
					threes++
				}
			}
		}
	}
	return threes
}

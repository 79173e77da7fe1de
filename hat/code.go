package hat

import (
	"slices"

	"aigrette/api"
)

// checkCode returns the error of a code.
func checkCode(helpers int, code []int) api.Errno {
	if !isCount(helpers) {
		return api.ErrRange
	}
	for i, colouring := range code {
		if !isColouring(helpers, colouring) {
			return api.ErrNone
		}
		if i > 0 && colouring <= code[i-1] {
			return api.ErrOrder
		}
	}
	return api.OK
}

// checkPerfect returns the error of helpers for whom a perfect code is asked. Each element covers helpers + 1
// colourings, so there is one only where this number divides that of all colourings.
func checkPerfect(helpers int) api.Errno {
	switch {
	case !isCount(helpers):
		return api.ErrRange
	case colourings(helpers)%(helpers+1) != 0:
		return api.ErrLost
	}
	return api.OK
}

// checkSearch returns the error of helpers for whom the smallest covering code is asked.
func checkSearch(helpers int) api.Errno {
	switch {
	case !isCount(helpers):
		return api.ErrRange
	case helpers > MaxSearch:
		return api.ErrMany
	}
	return api.OK
}

// times returns how many elements of a code cover each colouring.
func times(helpers int, code []int) []int {
	often := make([]int, colourings(helpers))
	for _, element := range code {
		often[element]++
		for helper := range helpers {
			often[changed(element, helper)]++
		}
	}
	return often
}

func isCovering(helpers int, code []int) bool {
	return !slices.Contains(times(helpers, code), 0)
}

// planOf returns the plan of a code.
func planOf(helpers int, code []int) Plan {
	p := Plan{Helpers: helpers}
	for helper := range helpers {
		says := make([]int, views(helpers))
		for view := range says {
			says[view] = avoiding(code, view, helper)
		}
		p.Says = append(p.Says, says)
	}
	return p
}

// avoiding returns what a helper says who takes it that the colouring is not in the code.
func avoiding(code []int, view, helper int) int {
	white, black := bothOf(view, helper)
	hasWhite, hasBlack := slices.Contains(code, white), slices.Contains(code, black)
	switch {
	case hasWhite == hasBlack:
		return Pass
	case hasWhite:
		return Black
	}
	return White
}

// sumOf returns the sum of a colouring.
func sumOf(helpers, colouring int) int {
	sum := 0
	for helper := range helpers {
		if hatOf(colouring, helper) == Black {
			sum ^= helper + 1
		}
	}
	return sum
}

// nearest returns the element of the perfect code that covers a colouring: the sum names the hat that is wrong.
func nearest(helpers, colouring int) int {
	sum := sumOf(helpers, colouring)
	if sum == 0 {
		return colouring
	}
	return changed(colouring, sum-1)
}

// best returns the first one of the smallest covering codes. The code of all colourings is covering, so the
// search ends.
func best(helpers int) []int {
	elements := 1
	for {
		if code, found := firstCovering(helpers, nil, elements); found {
			return code
		}
		elements++
	}
}

// firstCovering returns the first covering code with so many elements that begins with some, if there is one.
func firstCovering(helpers int, begun []int, elements int) ([]int, bool) {
	if len(begun) == elements {
		return begun, isCovering(helpers, begun)
	}
	next := 0
	if len(begun) > 0 {
		next = begun[len(begun)-1] + 1
	}
	for ; next < colourings(helpers); next++ {
		more := append(slices.Clone(begun), next)
		if code, found := firstCovering(helpers, more, elements); found {
			return code, true
		}
	}
	return nil, false
}

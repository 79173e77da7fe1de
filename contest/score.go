package contest

import (
	"cmp"
	"slices"

	"aigrette/api"
)

func checkScores(scores []int) api.Errno {
	if len(scores) == 0 {
		return api.ErrEmpty
	}
	if len(scores) > MaxCurlers {
		return api.ErrMany
	}
	sum := 0
	for _, score := range scores {
		if score < 0 || score >= len(scores) {
			return api.ErrRange
		}
		sum += score
	}
	if sum != pairs(len(scores)) {
		return api.ErrSum
	}
	return api.OK
}

// isProof tells whether different curlers have won less, all together, than they meet each other.
func isProof(scores, curlers []int) bool {
	sum := 0
	for _, curler := range curlers {
		sum += scores[curler]
	}
	return sum < pairs(len(curlers))
}

// shortestProof returns the first one of the shortest proofs against scores, or nothing.
func shortestProof(scores []int) []int {
	var shortest []int
	for set := range 1 << len(scores) {
		curlers := curlersOf(set, len(scores))
		if isProof(scores, curlers) && (shortest == nil || comesBefore(curlers, shortest)) {
			shortest = curlers
		}
	}
	return shortest
}

// curlersOf returns the curlers whose bits are in a set.
func curlersOf(set, curlers int) []int {
	var members []int
	for curler := range curlers {
		if set>>curler&1 == 1 {
			members = append(members, curler)
		}
	}
	return members
}

// comesBefore tells whether a list is shorter than another one, or as long and smaller.
func comesBefore(a, b []int) bool {
	if len(a) != len(b) {
		return len(a) < len(b)
	}
	return slices.Compare(a, b) < 0
}

// meetingsFor returns the meetings of a contest with scores against which there is no proof.
// The last curler beats those of the others who need the fewest wins, and loses to the rest of
// them; if the scores were possible, those that are needed without the last curler are, too.
func meetingsFor(scores []int) []Meeting {
	needed := slices.Clone(scores)
	var meetings []Meeting
	for last := len(scores) - 1; last > 0; last-- {
		for place, other := range fewestFirst(needed[:last]) {
			if place < needed[last] {
				meetings = append(meetings, Meeting{Won: last, Lost: other})
			} else {
				meetings = append(meetings, Meeting{Won: other, Lost: last})
				needed[other]--
			}
		}
	}
	return meetings
}

// fewestFirst returns the indices of numbers, those of the smallest numbers first.
func fewestFirst(numbers []int) []int {
	indices := make([]int, len(numbers))
	for i := range indices {
		indices[i] = i
	}
	slices.SortStableFunc(indices, func(a, b int) int { return cmp.Compare(numbers[a], numbers[b]) })
	return indices
}

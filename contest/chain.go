package contest

// beaten tells whether a curler beat another one.
type beaten func(a, b int) bool

// noChain stands for the number of steps where there is no chain: more steps than any chain has.
const noChain = MaxCurlers

// stepsTo returns, for each curler, the number of steps of the shortest chains to a curler, or noChain.
func stepsTo(curlers int, beat beaten, to int) []int {
	steps := make([]int, curlers)
	for a := range steps {
		steps[a] = noChain
	}
	steps[to] = 0
	reached := []int{to}
	for next := 0; next < len(reached); next++ {
		b := reached[next]
		for a := range curlers {
			if steps[a] == noChain && beat(a, b) {
				steps[a] = steps[b] + 1
				reached = append(reached, a)
			}
		}
	}
	return steps
}

// shortestChain returns the first one of the shortest chains from a to b, or nothing.
// Each curler of it is the first one that is a step nearer to b.
func shortestChain(curlers int, beat beaten, a, b int) []int {
	steps := stepsTo(curlers, beat, b)
	if steps[a] == noChain {
		return nil
	}
	chain := []int{a}
	for at := a; at != b; {
		next := 0
		for !beat(at, next) || steps[next] != steps[at]-1 {
			next++
		}
		chain = append(chain, next)
		at = next
	}
	return chain
}

// best returns the curlers from whom no other one is more than two steps away.
func best(curlers int, beat beaten) []int {
	farthest := make([]int, curlers)
	for b := range curlers {
		for a, steps := range stepsTo(curlers, beat, b) {
			farthest[a] = max(farthest[a], steps)
		}
	}
	var found []int
	for a, steps := range farthest {
		if steps <= 2 {
			found = append(found, a)
		}
	}
	return found
}

// groups returns the groups. There are chains from a curler to all curlers of its own group and of
// the groups after it, and to no others: so to how many there are tells the group.
func groups(curlers int, beat beaten) [][]int {
	reached := make([]int, curlers)
	for b := range curlers {
		for a, steps := range stepsTo(curlers, beat, b) {
			if steps < noChain {
				reached[a]++
			}
		}
	}
	var found [][]int
	for number := curlers; number > 0; number-- {
		var group []int
		for a := range curlers {
			if reached[a] == number {
				group = append(group, a)
			}
		}
		if len(group) > 0 {
			found = append(found, group)
		}
	}
	return found
}

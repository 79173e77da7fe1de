package contest_test

// The tests compare the package with lists of all chains, found as chapter 2 defines them.

import (
	"math/rand"
	"slices"

	"aigrette/contest"
)

func list(numbers ...int) []int { return numbers }

func lists(l ...[]int) [][]int { return l }

// made returns a contest: each two numbers are a meeting.
func made(curlers int, numbers ...int) contest.Contest {
	c := contest.Contest{Curlers: curlers}
	for i := 0; i+1 < len(numbers); i += 2 {
		c.Meetings = append(c.Meetings, contest.Meeting{Won: numbers[i], Lost: numbers[i+1]})
	}
	return c
}

// exampleC and exampleD are the contests of the chapter's examples.
func exampleC() contest.Contest { return made(3, 0, 1, 1, 2, 2, 0) }

func exampleD() contest.Contest { return made(4, 0, 1, 0, 2, 1, 2, 1, 3, 2, 3, 3, 0) }

// numbered returns the contest whose meetings end as the bits of a number say.
func numbered(curlers, bits int) contest.Contest {
	c := contest.Contest{Curlers: curlers}
	for a := range curlers {
		for b := a + 1; b < curlers; b++ {
			meeting := contest.Meeting{Won: a, Lost: b}
			if bits&1 == 1 {
				meeting = contest.Meeting{Won: b, Lost: a}
			}
			c.Meetings = append(c.Meetings, meeting)
			bits >>= 1
		}
	}
	return c
}

// someContests returns all contests of at most five curlers, and some of six and seven, the same in each run.
func someContests() []contest.Contest {
	var all []contest.Contest
	for curlers := 1; curlers <= 5; curlers++ {
		for bits := range 1 << (curlers * (curlers - 1) / 2) {
			all = append(all, numbered(curlers, bits))
		}
	}
	r := rand.New(rand.NewSource(2))
	for range 300 {
		all = append(all, numbered(6, r.Intn(1<<15)), numbered(7, r.Intn(1<<21)))
	}
	// Few meetings end the other way round in these, so that they have many groups.
	for range 150 {
		all = append(all, numbered(6, 1<<r.Intn(15)|1<<r.Intn(15)), numbered(7, 1<<r.Intn(21)|1<<r.Intn(21)))
	}
	for _, c := range all {
		r.Shuffle(len(c.Meetings), func(i, j int) { c.Meetings[i], c.Meetings[j] = c.Meetings[j], c.Meetings[i] })
	}
	return all
}

func beat(c contest.Contest, a, b int) bool {
	return slices.Contains(c.Meetings, contest.Meeting{Won: a, Lost: b})
}

// allChains returns all chains of a contest, in ascending order.
func allChains(c contest.Contest) [][]int {
	var all [][]int
	var extend func(chain []int)
	extend = func(chain []int) {
		all = append(all, chain)
		for next := range c.Curlers {
			if !slices.Contains(chain, next) && beat(c, chain[len(chain)-1], next) {
				extend(append(slices.Clone(chain), next))
			}
		}
	}
	for a := range c.Curlers {
		extend(list(a))
	}
	return all
}

// wanted is what the package is to return of a contest, but for groups.
type wanted struct {
	scores, best, row, ring []int
	rows, threes            int
	chains                  [][][]int
}

func want(c contest.Contest) wanted {
	w := wanted{scores: make([]int, c.Curlers)}
	for _, meeting := range c.Meetings {
		w.scores[meeting.Won]++
	}
	w.chains = make([][][]int, c.Curlers)
	for a := range w.chains {
		w.chains[a] = make([][]int, c.Curlers)
	}
	for _, chain := range allChains(c) {
		first, last := chain[0], chain[len(chain)-1]
		if known := w.chains[first][last]; known == nil || len(chain) < len(known) {
			w.chains[first][last] = chain
		}
		if len(chain) < c.Curlers {
			continue
		}
		w.rows++
		if w.row == nil {
			w.row = chain
		}
		if w.ring == nil && len(chain) >= 3 && beat(c, last, first) {
			w.ring = chain
		}
	}
	for a, chains := range w.chains {
		if !slices.ContainsFunc(chains, func(chain []int) bool { return chain == nil || len(chain) > 3 }) {
			w.best = append(w.best, a)
		}
	}
	for _, x := range subsets(c.Curlers) {
		if len(x) == 3 && (beat(c, x[0], x[1]) && beat(c, x[1], x[2]) && beat(c, x[2], x[0]) || beat(c, x[1], x[0]) && beat(c, x[2], x[1]) && beat(c, x[0], x[2])) {
			w.threes++
		}
	}
	return w
}

// subsets returns all ascending lists of numbers below n, the shorter ones first, and those of a length in ascending order.
func subsets(n int) [][]int {
	all := [][]int{nil}
	for next := 0; next < len(all); next++ {
		from := 0
		if k := len(all[next]); k > 0 {
			from = all[next][k-1] + 1
		}
		for i := from; i < n; i++ {
			all = append(all, append(slices.Clone(all[next]), i))
		}
	}
	return all
}

// allScores returns all lists of as many scores as curlers with the right sum; only the ascending ones, and those turned round, if there are more than five.
func allScores(curlers int) [][]int {
	var all [][]int
	var extend func(scores []int, sum int)
	extend = func(scores []int, sum int) {
		if len(scores) == curlers {
			if sum == curlers*(curlers-1)/2 {
				all = append(all, scores)
			}
			return
		}
		for next := range curlers {
			if curlers <= 5 || len(scores) == 0 || next >= scores[len(scores)-1] {
				extend(append(slices.Clone(scores), next), sum+next)
			}
		}
	}
	extend(nil, 0)
	for _, scores := range all {
		if curlers > 5 {
			turned := slices.Clone(scores)
			slices.Reverse(turned)
			// And one that is neither ascending nor descending.
			mixed := slices.Clone(scores)
			mixed[0], mixed[3], mixed[1], mixed[5] = mixed[3], mixed[0], mixed[5], mixed[1]
			all = append(all, turned, mixed)
		}
	}
	return all
}

// firstProof returns the first one of the shortest proofs against scores, or nil.
func firstProof(scores []int) []int {
	for _, curlers := range subsets(len(scores)) {
		sum := 0
		for _, curler := range curlers {
			sum += scores[curler]
		}
		if sum < len(curlers)*(len(curlers)-1)/2 {
			return curlers
		}
	}
	return nil
}

package contest_test

import (
	"math"
	"slices"
	"testing"

	"aigrette/api"
	"aigrette/contest"
)

func equalLists(a, b [][]int) bool { return slices.EqualFunc(a, b, slices.Equal[[]int]) }

// The table of examples of chapter 2, row by row.
func TestExamples(t *testing.T) {
	is := func(row string, ok bool) {
		t.Helper()
		if !ok {
			t.Errorf("row %q", row)
		}
	}
	numbers := func(l []int, e api.Errno) func(...int) bool {
		return func(want ...int) bool { return e == api.OK && slices.Equal(l, want) }
	}
	number := func(n int, e api.Errno) func(int) bool {
		return func(want int) bool { return e == api.OK && n == want }
	}
	c, d := exampleC(), exampleD()

	is("Scores of C", numbers(contest.Scores(c))(1, 1, 1))
	is("Scores of D", numbers(contest.Scores(d))(2, 2, 1, 1))

	is("Best of C", numbers(contest.Best(c))(0, 1, 2))
	is("Best of D", numbers(contest.Best(d))(0, 1, 3))
	is("Row of C", numbers(contest.Row(c))(0, 1, 2))
	is("Row of D", numbers(contest.Row(d))(0, 1, 2, 3))

	is("Rows of C", number(contest.Rows(c))(3))
	is("Rows of D", number(contest.Rows(d))(5))
	is("Ring of D", numbers(contest.Ring(d))(0, 1, 2, 3))
	is("Threes of C", number(contest.Threes(c))(1))
	is("Threes of D", number(contest.Threes(d))(2))

	is("Chain of D: 2 to 1", numbers(contest.Chain(d, 2, 1))(2, 3, 0, 1))
	is("Chain of D: 0 to 0", numbers(contest.Chain(d, 0, 0))(0))
	is("Chain of D: 0 to 3", numbers(contest.Chain(d, 0, 3))(0, 1, 3))

	groups, e := contest.Groups(d)
	is("Groups of D", e == api.OK && equalLists(groups, lists(list(0, 1, 2, 3))))
	groups, e = contest.Groups(made(3, 0, 1, 0, 2, 1, 2))
	is("Groups of 3 curlers", e == api.OK && equalLists(groups, lists(list(0), list(1), list(2))))

	is("Against of 0, 0, 3, 3", numbers(contest.Against(list(0, 0, 3, 3)))(0, 1))
	_, e = contest.Against(list(1, 1, 1))
	is("Against of 1, 1, 1", e == api.ErrClash)
	_, e = contest.Against(list(2, 2))
	is("Against of 2, 2", e == api.ErrRange)

	is("Proves of 0, 1", contest.Proves(list(0, 0, 3, 3), list(0, 1)) == api.OK)
	is("Proves of 0, 1, 2", contest.Proves(list(0, 0, 3, 3), list(0, 1, 2)) == api.ErrProof)
	is("Proves of 1, 2", contest.Proves(list(0, 0, 3, 3), list(1, 2)) == api.ErrProof)

	from, e := contest.From(list(0, 1, 2))
	is("From of 0, 1, 2", e == api.OK && numbers(contest.Scores(from))(0, 1, 2))
	_, e = contest.From(list(0, 0, 3, 3))
	is("From of 0, 0, 3, 3", e == api.ErrLost)
}

// errorsOf returns the errors of all functions of a contest.
func errorsOf(c contest.Contest, a, b int) map[string]api.Errno {
	all := map[string]api.Errno{"Check": contest.Check(c)}
	_, all["Scores"] = contest.Scores(c)
	_, all["Best"] = contest.Best(c)
	_, all["Chain"] = contest.Chain(c, a, b)
	_, all["Row"] = contest.Row(c)
	_, all["Rows"] = contest.Rows(c)
	_, all["Groups"] = contest.Groups(c)
	_, all["Ring"] = contest.Ring(c)
	_, all["Threes"] = contest.Threes(c)
	return all
}

// P2.1: Check, and that all other functions return its error at first.
func TestCheck(t *testing.T) {
	for _, x := range []struct {
		name string
		c    contest.Contest
		want api.Errno
	}{
		{"one curler", made(1), api.OK},
		{"two curlers", made(2, 1, 0), api.OK},
		{"seven curlers", numbered(7, 12345), api.OK},
		{"no curlers", made(0), api.ErrRange},
		{"eight curlers", numbered(8, 0), api.ErrRange},
		{"less than none", made(-1), api.ErrRange},
		{"the smallest int", made(math.MinInt), api.ErrRange},
		{"the greatest int", made(math.MaxInt), api.ErrRange},
		{"range before meetings", made(0, 0, 0), api.ErrRange},
		{"Won too great", made(2, 2, 0), api.ErrNone},
		{"Lost too great", made(2, 0, 2), api.ErrNone},
		{"Won too small", made(2, -1, 0), api.ErrNone},
		{"Lost too small", made(2, 0, -1), api.ErrNone},
		{"extreme ints", made(2, math.MinInt, math.MaxInt), api.ErrNone},
		{"none before the same", made(2, 5, 5), api.ErrNone},
		{"the same one", made(2, 1, 1), api.ErrClash},
		{"the same one twice", made(2, 1, 1, 1, 1), api.ErrClash},
		{"the only one", made(1, 0, 0), api.ErrClash},
		{"twice", made(2, 0, 1, 0, 1), api.ErrTwice},
		{"twice, turned", made(2, 0, 1, 1, 0), api.ErrTwice},
		{"twice, not next to each other", made(3, 0, 1, 1, 2, 0, 1), api.ErrTwice},
		{"twice, turned, not next to each other", made(3, 1, 0, 1, 2, 0, 1), api.ErrTwice},
		{"twice after all met", made(3, 0, 1, 1, 2, 2, 0, 0, 2), api.ErrTwice},
		{"the first meeting counts: none", made(3, 0, 3, 1, 1), api.ErrNone},
		{"the first meeting counts: clash", made(3, 1, 1, 0, 3), api.ErrClash},
		{"the first meeting counts: twice", made(3, 0, 1, 0, 1, 0, 3), api.ErrTwice},
		{"a meeting before open", made(3, 0, 0), api.ErrClash},
		{"open: no meeting", made(2), api.ErrOpen},
		{"open: one lacks", made(3, 0, 1, 1, 2), api.ErrOpen},
		{"open: seven", contest.Contest{Curlers: 7, Meetings: numbered(7, 99).Meetings[1:]}, api.ErrOpen},
	} {
		for name, e := range errorsOf(x.c, -1, 9) {
			switch {
			case x.want != api.OK && e != x.want:
				t.Errorf("%s: %s: %d, want %d", x.name, name, e, x.want)
			case x.want == api.OK && name != "Chain" && name != "Ring" && e != api.OK:
				t.Errorf("%s: %s: %d", x.name, name, e)
			}
		}
	}
}

// P2.1 to P2.5: what the functions return, by the chapter's definitions.
func TestContests(t *testing.T) {
	for _, c := range someContests() {
		w := want(c)
		if got, e := contest.Scores(c); e != api.OK || !slices.Equal(got, w.scores) {
			t.Errorf("Scores of %v: %v %d, want %v", c, got, e, w.scores)
		}
		if got, e := contest.Best(c); e != api.OK || !slices.Equal(got, w.best) {
			t.Errorf("Best of %v: %v %d, want %v", c, got, e, w.best)
		}
		if got, e := contest.Row(c); e != api.OK || !slices.Equal(got, w.row) {
			t.Errorf("Row of %v: %v %d, want %v", c, got, e, w.row)
		}
		if got, e := contest.Rows(c); e != api.OK || got != w.rows {
			t.Errorf("Rows of %v: %d %d, want %d", c, got, e, w.rows)
		}
		if got, e := contest.Threes(c); e != api.OK || got != w.threes {
			t.Errorf("Threes of %v: %d %d, want %d", c, got, e, w.threes)
		}
		wantE := api.OK
		if w.ring == nil {
			wantE = api.ErrLost
		}
		if got, e := contest.Ring(c); e != wantE || !slices.Equal(got, w.ring) {
			t.Errorf("Ring of %v: %v %d, want %v", c, got, e, w.ring)
		}
		checkChains(t, c, w)
		checkGroups(t, c, w)
	}
}

// checkChains checks P2.3 for each two curlers.
func checkChains(t *testing.T, c contest.Contest, w wanted) {
	for a := range c.Curlers {
		for b := range c.Curlers {
			wantE := api.OK
			if w.chains[a][b] == nil {
				wantE = api.ErrLost
			}
			if got, e := contest.Chain(c, a, b); e != wantE || !slices.Equal(got, w.chains[a][b]) {
				t.Errorf("Chain of %v, %d to %d: %v %d, want %v", c, a, b, got, e, w.chains[a][b])
			}
		}
	}
}

// checkGroups checks P2.5: all curlers are divided, by chains both ways, and each one of a group beat all of the groups after it.
func checkGroups(t *testing.T, c contest.Contest, w wanted) {
	groups, e := contest.Groups(c)
	place := map[int]int{}
	for i, group := range groups {
		if len(group) == 0 || !slices.IsSorted(group) {
			t.Errorf("Groups of %v: %v", c, groups)
		}
		for _, curler := range group {
			place[curler] = i
		}
	}
	all := slices.Concat(groups...)
	slices.Sort(all)
	if e != api.OK || len(all) != c.Curlers || len(place) != c.Curlers || all[0] != 0 || all[len(all)-1] != c.Curlers-1 {
		t.Fatalf("Groups of %v: %v %d", c, groups, e)
	}
	for a := range c.Curlers {
		for b := range c.Curlers {
			together := w.chains[a][b] != nil && w.chains[b][a] != nil
			if together != (place[a] == place[b]) || place[a] < place[b] && !beat(c, a, b) {
				t.Errorf("Groups of %v: %v, with %d and %d", c, groups, a, b)
			}
		}
	}
}

// P2.3: a or b is not a curler, or there is no chain.
func TestChainErrors(t *testing.T) {
	for _, x := range []struct {
		c    contest.Contest
		a, b int
		want api.Errno
	}{
		{exampleC(), -1, 0, api.ErrNone},
		{exampleC(), 0, -1, api.ErrNone},
		{exampleC(), 3, 0, api.ErrNone},
		{exampleC(), 0, 3, api.ErrNone},
		{exampleC(), 3, 3, api.ErrNone},
		{exampleC(), -1, -1, api.ErrNone},
		{exampleC(), math.MaxInt, math.MinInt, api.ErrNone},
		{exampleC(), 0, 0, api.OK},
		{exampleC(), 2, 2, api.OK},
		{made(1), 0, 0, api.OK},
		{made(1), 0, 1, api.ErrNone},
		{made(2, 0, 1), 0, 1, api.OK},
		{made(2, 0, 1), 1, 0, api.ErrLost},
		{made(3, 0, 1, 0, 2, 1, 2), 2, 0, api.ErrLost},
		{made(3, 0, 1, 0, 2, 1, 2), 2, 3, api.ErrNone},
	} {
		if chain, e := contest.Chain(x.c, x.a, x.b); e != x.want || e != api.OK && len(chain) > 0 {
			t.Errorf("Chain of %v, %d to %d: %v %d, want %d", x.c, x.a, x.b, chain, e, x.want)
		}
	}
}

// P2.4: one or two curlers have a row, but no ring.
func TestNoRing(t *testing.T) {
	for _, x := range []struct {
		c    contest.Contest
		want api.Errno
		ring []int
		row  []int
	}{
		{made(1), api.ErrLost, nil, list(0)},
		{made(2, 0, 1), api.ErrLost, nil, list(0, 1)},
		{made(2, 1, 0), api.ErrLost, nil, list(1, 0)},
		{made(3, 0, 1, 0, 2, 1, 2), api.ErrLost, nil, list(0, 1, 2)},
		{made(3, 1, 0, 2, 1, 0, 2), api.OK, list(0, 2, 1), list(0, 2, 1)},
		{made(4, 0, 1, 1, 2, 2, 0, 0, 3, 1, 3, 2, 3), api.ErrLost, nil, list(0, 1, 2, 3)},
		{made(4, 0, 1, 0, 2, 0, 3, 1, 2, 2, 3, 3, 1), api.ErrLost, nil, list(0, 1, 2, 3)},
		{made(4, 0, 2, 2, 1, 1, 0, 3, 0, 3, 1, 2, 3), api.OK, list(0, 2, 3, 1), list(0, 2, 3, 1)},
	} {
		ring, e := contest.Ring(x.c)
		row, f := contest.Row(x.c)
		if e != x.want || !slices.Equal(ring, x.ring) || f != api.OK || !slices.Equal(row, x.row) {
			t.Errorf("%v: ring %v %d, row %v %d", x.c, ring, e, row, f)
		}
	}
}

// P2.6, P2.7: the errors of scores.
func TestScoresErrors(t *testing.T) {
	for _, x := range []struct {
		scores []int
		want   api.Errno
	}{
		{nil, api.ErrEmpty},
		{list(), api.ErrEmpty},
		{list(0, 1, 2, 3, 4, 5, 6, 7), api.ErrMany},
		{list(-1, 1, 2, 3, 4, 5, 6, 7), api.ErrMany},
		{list(1), api.ErrRange},
		{list(-1), api.ErrRange},
		{list(-1, 2), api.ErrRange},
		{list(2, -1), api.ErrRange},
		{list(0, 0, 3), api.ErrRange},
		{list(0, 1, 2, 3, 4, 5, 7), api.ErrRange},
		{list(math.MaxInt, math.MinInt), api.ErrRange},
		{list(math.MaxInt, math.MaxInt, 3), api.ErrRange},
		{list(0, 0), api.ErrSum},
		{list(1, 1), api.ErrSum},
		{list(0, 1, 1), api.ErrSum},
		{list(2, 1, 1), api.ErrSum},
		{list(6, 6, 6, 6, 6, 6, 6), api.ErrSum},
	} {
		proof, e := contest.Against(x.scores)
		c, f := contest.From(x.scores)
		g := contest.Proves(x.scores, list(9))
		if e != x.want || f != x.want || g != x.want || len(proof) > 0 || c.Curlers != 0 || len(c.Meetings) > 0 {
			t.Errorf("%v: Against %v %d, From %v %d, Proves %d, want %d", x.scores, proof, e, c, f, g, x.want)
		}
	}
}

// P2.6, P2.7: each list of scores has the first proof against it, or a contest.
func TestAgainst(t *testing.T) {
	for curlers := 1; curlers <= contest.MaxCurlers; curlers++ {
		for _, scores := range allScores(curlers) {
			wantProof := firstProof(scores)
			wantE, wantF := api.OK, api.ErrLost
			if wantProof == nil {
				wantE, wantF = api.ErrClash, api.OK
			}
			proof, e := contest.Against(scores)
			if e != wantE || !slices.Equal(proof, wantProof) {
				t.Errorf("Against of %v: %v %d, want %v %d", scores, proof, e, wantProof, wantE)
			}
			c, f := contest.From(scores)
			if f != wantF || f != api.OK && (c.Curlers != 0 || len(c.Meetings) > 0) {
				t.Errorf("From of %v: %v %d, want %d", scores, c, f, wantF)
			}
			if got, g := contest.Scores(c); f == api.OK && (g != api.OK || !slices.Equal(got, scores)) {
				t.Errorf("From of %v: %v, whose scores are %v %d", scores, c, got, g)
			}
		}
	}
}

// P2.6: which lists Proves accepts, and why it refuses the others.
func TestProves(t *testing.T) {
	scores := list(0, 0, 3, 3)
	for _, x := range []struct {
		scores, curlers []int
		want            api.Errno
	}{
		{scores, list(0, 1), api.OK},
		{scores, nil, api.ErrProof},
		{scores, list(), api.ErrProof},
		{scores, list(0), api.ErrProof},
		{scores, list(0, 1, 3), api.ErrProof},
		{scores, list(0, 1, 2, 3), api.ErrProof},
		{scores, list(1, 0), api.ErrOrder},
		{scores, list(0, 0), api.ErrOrder},
		{scores, list(0, 1, 1), api.ErrOrder},
		{scores, list(0, 2, 1), api.ErrOrder},
		{scores, list(-1), api.ErrNone},
		{scores, list(4), api.ErrNone},
		{scores, list(0, 1, 4), api.ErrNone},
		{scores, list(0, -1), api.ErrNone},
		{scores, list(math.MinInt, math.MaxInt), api.ErrNone},
		{scores, list(2, 1, 9), api.ErrOrder},
		{scores, list(2, 9, 1), api.ErrNone},
		{list(0), list(0), api.ErrProof},
		{list(0), list(1), api.ErrNone},
		{list(1, 1, 1), list(0, 1, 2), api.ErrProof},
	} {
		if e := contest.Proves(x.scores, x.curlers); e != x.want {
			t.Errorf("Proves of %v: %v: %d, want %d", x.scores, x.curlers, e, x.want)
		}
	}
	for _, scores := range allScores(5) {
		for _, curlers := range subsets(5) {
			sum, wantE := 0, api.ErrProof
			for _, curler := range curlers {
				sum += scores[curler]
			}
			if sum < len(curlers)*(len(curlers)-1)/2 {
				wantE = api.OK
			}
			if e := contest.Proves(scores, curlers); e != wantE {
				t.Errorf("Proves of %v: %v: %d, want %d", scores, curlers, e, wantE)
			}
		}
	}
}

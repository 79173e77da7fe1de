package contest_test

// P2.8 to P2.13, and with them F1 to F7 for this layer.

import (
	"math/rand"
	"slices"
	"testing"

	"aigrette/api"
	"aigrette/contest"
)

// all is what the functions return of a contest.
type all struct {
	scores, best, row, ring []int
	rows, threes            int
	groups                  [][]int
	hasRing                 bool
}

func allOf(t *testing.T, c contest.Contest) all {
	t.Helper()
	var a all
	var e [7]api.Errno
	a.scores, e[0] = contest.Scores(c)
	a.best, e[1] = contest.Best(c)
	a.row, e[2] = contest.Row(c)
	a.rows, e[3] = contest.Rows(c)
	a.threes, e[4] = contest.Threes(c)
	a.groups, e[5] = contest.Groups(c)
	a.ring, e[6] = contest.Ring(c)
	a.hasRing = e[6] == api.OK
	e[6] = api.OK
	if e != [7]api.Errno{} || a.hasRing != (len(a.ring) > 0) {
		t.Fatalf("%v: %v", c, e)
	}
	return a
}

// P2.8, P2.9, P2.10, P2.12.
func TestProperties(t *testing.T) {
	for _, c := range someContests() {
		a := allOf(t, c)
		n := c.Curlers
		greatest := slices.Max(a.scores)
		for curler, score := range a.scores {
			if score == greatest && !slices.Contains(a.best, curler) {
				t.Errorf("P2.8: %v: %v, without %d", c, a.best, curler)
			}
		}
		if greatest == n-1 && len(a.best) != 1 || greatest < n-1 && len(a.best) < 3 {
			t.Errorf("P2.8: %v: %v", c, a.best)
		}
		if a.rows%2 != 1 || len(a.row) != n {
			t.Errorf("P2.9: %v: %d rows, %v", c, a.rows, a.row)
		}
		if a.hasRing != (len(a.groups) == 1 && n >= 3) {
			t.Errorf("P2.10: %v: %v, %v", c, a.ring, a.groups)
		}
		for _, curler := range a.best {
			if !slices.Contains(a.groups[0], curler) {
				t.Errorf("P2.10: %v: %v, %v", c, a.best, a.groups)
			}
		}
		sum, threes := 0, n*(n-1)*(n-2)/6
		for _, score := range a.scores {
			sum += score
			threes -= score * (score - 1) / 2
		}
		if sum != n*(n-1)/2 || a.threes != threes {
			t.Errorf("P2.12: %v: %v, %d", c, a.scores, a.threes)
		}
	}
}

// P2.11, F4: there is either a contest with scores or a proof against them; proofs are accepted, and none against scores of a contest is.
func TestLandau(t *testing.T) {
	for curlers := 1; curlers <= contest.MaxCurlers; curlers++ {
		for _, scores := range allScores(curlers) {
			_, e := contest.From(scores)
			proof, f := contest.Against(scores)
			if (e == api.OK) == (f == api.OK) {
				t.Errorf("%v: From %d, Against %v %d", scores, e, proof, f)
			}
			if f == api.OK && contest.Proves(scores, proof) != api.OK {
				t.Errorf("%v: %v is not accepted", scores, proof)
			}
		}
	}
	for _, c := range someContests() {
		scores, _ := contest.Scores(c)
		if proof, e := contest.Against(scores); e != api.ErrClash {
			t.Errorf("Against of %v: %v %d", scores, proof, e)
		}
		for _, curlers := range subsets(c.Curlers) {
			if contest.Proves(scores, curlers) == api.OK {
				t.Errorf("%v is a proof against %v", curlers, scores)
			}
		}
	}
}

// P2.13, F5: other numbers of the curlers, and another order of the meetings.
func TestOtherNames(t *testing.T) {
	r := rand.New(rand.NewSource(3))
	for i, c := range someContests() {
		if i%3 != 0 {
			continue
		}
		name := r.Perm(c.Curlers)
		other := contest.Contest{Curlers: c.Curlers}
		for _, meeting := range c.Meetings {
			other.Meetings = append(other.Meetings, contest.Meeting{Won: name[meeting.Won], Lost: name[meeting.Lost]})
		}
		r.Shuffle(len(other.Meetings), func(i, j int) {
			other.Meetings[i], other.Meetings[j] = other.Meetings[j], other.Meetings[i]
		})
		a, b := allOf(t, c), allOf(t, other)
		renamed := func(l []int) []int {
			var names []int
			for _, curler := range l {
				names = append(names, name[curler])
			}
			slices.Sort(names)
			return names
		}
		for curler, score := range a.scores {
			if b.scores[name[curler]] != score {
				t.Errorf("scores of %v: %v, of %v: %v", c, a.scores, other, b.scores)
			}
		}
		if !slices.Equal(renamed(a.best), b.best) || a.rows != b.rows || a.threes != b.threes || a.hasRing != b.hasRing || len(a.groups) != len(b.groups) {
			t.Fatalf("%v: %v; %v: %v", c, a, other, b)
		}
		for i, group := range a.groups {
			if !slices.Equal(renamed(group), b.groups[i]) {
				t.Errorf("groups of %v: %v, of %v: %v", c, a.groups, other, b.groups)
			}
		}
	}
}

// P2.13: all meetings end the other way round.
func TestTurnedRound(t *testing.T) {
	for _, c := range someContests() {
		turned := contest.Contest{Curlers: c.Curlers}
		for _, meeting := range c.Meetings {
			turned.Meetings = append(turned.Meetings, contest.Meeting{Won: meeting.Lost, Lost: meeting.Won})
		}
		a, b := allOf(t, c), allOf(t, turned)
		slices.Reverse(b.groups)
		if a.rows != b.rows || a.threes != b.threes || a.hasRing != b.hasRing || !equalLists(a.groups, b.groups) {
			t.Errorf("%v: %v, turned round: %v", c, a, b)
		}
		for i := 1; i < len(b.row); i++ {
			if !beat(c, b.row[i], b.row[i-1]) {
				t.Errorf("%v: the row %v of it turned round is no row from its end on", c, b.row)
			}
		}
	}
}

package fan_test

// P4.1 to P4.7, and the table of examples.

import (
	"math"
	"slices"
	"testing"

	"aigrette/api"
	"aigrette/fan"
)

func list(l ...int) []int { return l }

// wide and narrow return a fan of half as many kinds as there are plumes.
func wide(plumes ...int) fan.Fan {
	return fan.Fan{Kinds: len(plumes) / 2, Wide: true, Plumes: plumes}
}

func narrow(plumes ...int) fan.Fan {
	return fan.Fan{Kinds: len(plumes) / 2, Plumes: plumes}
}

func empty(kinds int, isWide bool) fan.Fan {
	return fan.Fan{Kinds: kinds, Wide: isWide, Plumes: make([]int, 2*kinds)}
}

// fanL and fanM are the fans of the chapter's examples.
func fanL() fan.Fan { return wide(2, 3, 1, 2, 1, 3) }

func fanM() fan.Fan { return narrow(0, 0, 3, 0, 0, 3, 0, 0) }

func same(t *testing.T, name string, got []int, e api.Errno, want []int, wanted api.Errno) {
	t.Helper()
	if !slices.Equal(got, want) || e != wanted {
		t.Errorf("%s: %v %d, want %v %d", name, got, e, want, wanted)
	}
}

func sameNumber(t *testing.T, name string, got int, e api.Errno, want int, wanted api.Errno) {
	t.Helper()
	if got != want || e != wanted {
		t.Errorf("%s: %d %d, want %d %d", name, got, e, want, wanted)
	}
}

func sameTruth(t *testing.T, name string, got bool, e api.Errno, want bool, wanted api.Errno) {
	t.Helper()
	if got != want || e != wanted {
		t.Errorf("%s: %v %d, want %v %d", name, got, e, want, wanted)
	}
}

func sameFan(t *testing.T, name string, got fan.Fan, e api.Errno, want fan.Fan, wanted api.Errno) {
	t.Helper()
	if got.Kinds != want.Kinds || got.Wide != want.Wide || !slices.Equal(got.Plumes, want.Plumes) || e != wanted {
		t.Errorf("%s: %v %d, want %v %d", name, got, e, want, wanted)
	}
}

func TestExamplesOfFull(t *testing.T) {
	is, e := fan.Full(fanL())
	sameTruth(t, "Full of L", is, e, true, api.OK)
	is, e = fan.Full(fanM())
	sameTruth(t, "Full of M", is, e, false, api.OK)
	is, e = fan.Can(3, true)
	sameTruth(t, "Can of 3, wide", is, e, true, api.OK)
	is, e = fan.Can(3, false)
	sameTruth(t, "Can of 3, not wide", is, e, false, api.OK)
	is, e = fan.Can(4, false)
	sameTruth(t, "Can of 4, not wide", is, e, true, api.OK)

	n, e := fan.Half(3, true)
	sameNumber(t, "Half of 3, wide", n, e, 3, api.OK)
	n, e = fan.Half(3, false)
	sameNumber(t, "Half of 3, not wide", n, e, 0, api.ErrLost)
	n, e = fan.Half(4, false)
	sameNumber(t, "Half of 4, not wide", n, e, 9, api.OK)
}

func TestExamplesOfPut(t *testing.T) {
	for _, x := range []struct {
		kind int
		want []int
		e    api.Errno
	}{{1, list(0, 3, 6), api.OK}, {2, list(1, 4), api.OK}, {4, list(0, 3), api.OK}, {3, nil, api.ErrTwice}} {
		l, e := fan.Free(fanM(), x.kind)
		same(t, "Free of M", l, e, x.want, x.e)
	}
	f, e := fan.Put(fanM(), 4, 3)
	sameFan(t, "Put into M: 4 at 3", f, e, narrow(0, 0, 3, 4, 0, 3, 0, 4), api.OK)
	for _, x := range []struct {
		kind, place int
		e           api.Errno
	}{{4, 2, api.ErrFull}, {2, 6, api.ErrOver}, {2, 5, api.ErrFull}, {3, 0, api.ErrTwice}} {
		f, e := fan.Put(fanM(), x.kind, x.place)
		sameFan(t, "Put into M", f, e, fan.Fan{}, x.e)
	}
	f, e = fan.Take(fanL(), 2)
	sameFan(t, "Take from L: 2", f, e, wide(0, 3, 1, 0, 1, 3), api.OK)
}

func TestExamplesOfPlaces(t *testing.T) {
	n, e := fan.Partner(fanL(), 0)
	sameNumber(t, "Partner of L: 0", n, e, 3, api.OK)
	n, e = fan.Partner(fanL(), 5)
	sameNumber(t, "Partner of L: 5", n, e, 1, api.OK)
	n, e = fan.Partner(fanM(), 0)
	sameNumber(t, "Partner of M: 0", n, e, 0, api.ErrEmpty)

	l, e := fan.Between(fanL(), 2)
	same(t, "Between of L: 2", l, e, list(3, 1), api.OK)
	l, e = fan.Between(fanL(), 3)
	same(t, "Between of L: 3", l, e, list(1, 2, 1), api.OK)
	for kind, want := range [][]int{1: {2}, 2: {1, 3}, 3: {2}} {
		if kind > 0 {
			l, e = fan.Crossing(fanL(), kind)
			same(t, "Crossing of L", l, e, want, api.OK)
		}
	}
}

func TestExamplesOfCompletions(t *testing.T) {
	f, e := fan.Complete(fanM())
	sameFan(t, "Complete of M", f, e, narrow(1, 1, 3, 4, 2, 3, 2, 4), api.OK)
	n, e := fan.Count(fanM())
	sameNumber(t, "Count of M", n, e, 2, api.OK)
	n, e = fan.Count(empty(3, true))
	sameNumber(t, "Count of 3 kinds, wide", n, e, 2, api.OK)
	f, e = fan.Complete(empty(2, true))
	sameFan(t, "Complete of 2 kinds, wide", f, e, fan.Fan{}, api.ErrLost)
	f, e = fan.Turned(fanL())
	sameFan(t, "Turned of L", f, e, wide(3, 1, 2, 1, 3, 2), api.OK)
}

// wrong returns fans with an error, and the error of each.
func wrong() ([]fan.Fan, []api.Errno) {
	var fans []fan.Fan
	var errors []api.Errno
	for _, x := range []struct {
		e    api.Errno
		fans []fan.Fan
	}{
		{api.ErrRange, []fan.Fan{{}, {Wide: true}, {Kinds: -1}, {Kinds: -1, Plumes: list(0, 0)}, {Kinds: math.MinInt}, {Kinds: math.MaxInt, Plumes: list(7)}, empty(9, false), empty(9, true)}},
		{api.ErrShape, []fan.Fan{{Kinds: 1}, {Kinds: 1, Plumes: list(0)}, {Kinds: 1, Plumes: list(0, 0, 0)}, {Kinds: 2, Wide: true, Plumes: list(1, 1)}, {Kinds: 8, Plumes: make([]int, 15)}, {Kinds: 8, Plumes: make([]int, 17)}, {Kinds: 8, Plumes: make([]int, 100)}}},
		{api.ErrNone, []fan.Fan{narrow(0, 2), narrow(-1, 0), narrow(math.MinInt, math.MaxInt), wide(0, 0, 0, 3), narrow(9, 0, 0, 0, 0, 0, 0, 0, 0, 0, 0, 0, 0, 0, 0, 9)}},
		{api.ErrMany, []fan.Fan{narrow(1, 1, 1, 0), narrow(1, 1, 1, 1), wide(2, 0, 2, 2), wide(1, 1, 1, 2, 3, 3), narrow(0, 2, 2, 2, 3, 0)}},
		{api.ErrOpen, []fan.Fan{narrow(1, 0), narrow(0, 1), wide(0, 1), wide(0, 0, 2, 0), narrow(1, 1, 2, 0)}},
		{api.ErrClash, []fan.Fan{wide(1, 1), narrow(2, 2, 0, 0), narrow(1, 0, 0, 1), narrow(0, 1, 0, 1), wide(2, 0, 2, 0), narrow(2, 0, 0, 2), wide(1, 0, 0, 1)}},
	} {
		for _, f := range x.fans {
			fans, errors = append(fans, f), append(errors, x.e)
		}
	}
	return fans, errors
}

// P4.1.
func TestCheck(t *testing.T) {
	for _, f := range []fan.Fan{fanL(), fanM(), narrow(1, 1), narrow(0, 0), wide(0, 0), narrow(1, 1, 0, 0), narrow(0, 1, 1, 0), wide(1, 0, 1, 0), wide(2, 0, 0, 2), narrow(2, 0, 2, 0), narrow(8, 0, 0, 0, 0, 0, 0, 0, 8, 0, 0, 0, 0, 0, 0, 0), wide(0, 0, 0, 0, 0, 0, 8, 0, 0, 0, 0, 0, 0, 0, 0, 8)} {
		if e := fan.Check(f); e != api.OK {
			t.Errorf("Check of %v: %d", f, e)
		}
	}
	fans, errors := wrong()
	for i, f := range fans {
		if e := fan.Check(f); e != errors[i] {
			t.Errorf("Check of %v: %d, want %d", f, e, errors[i])
		}
	}
}

// P4.1: of several kinds with an error the first one counts, wherever it stands.
func TestFirstKind(t *testing.T) {
	for _, x := range []struct {
		f    fan.Fan
		want api.Errno
	}{
		{narrow(3, 0, 2, 2, 2, 1), api.ErrOpen},
		{narrow(3, 2, 1, 1, 1, 0), api.ErrMany},
		{narrow(2, 2, 2, 1, 0, 1), api.ErrClash},
		{wide(3, 3, 3, 2, 0, 0), api.ErrOpen},
		{wide(3, 3, 3, 2, 2, 0), api.ErrClash},
		{wide(3, 2, 2, 2, 0, 0), api.ErrMany},
		{narrow(4, 3, 3, 3, 0, 1, 1, 0), api.ErrMany},
	} {
		if e := fan.Check(x.f); e != x.want {
			t.Errorf("Check of %v: %d, want %d", x.f, e, x.want)
		}
	}
}

// P4.1: all other functions return the error of Check at first, whatever else is wrong.
func TestCheckAtFirst(t *testing.T) {
	fans, errors := wrong()
	for i, f := range fans {
		for _, x := range [][2]int{{1, 0}, {0, 0}, {1, -1}, {1, 99}, {2, 1}, {-5, -5}, {math.MaxInt, math.MinInt}} {
			for _, call := range callsOfFan(f, x[0], x[1]) {
				results := call.results()
				if e := results[len(results)-1]; e != errors[i] {
					t.Errorf("%s of %v: %v: %v, want %d", call.name, f, x, e, errors[i])
				}
			}
		}
	}
}

// P4.1.
func TestFull(t *testing.T) {
	for _, x := range []struct {
		f    fan.Fan
		want bool
	}{{narrow(1, 1), true}, {narrow(0, 0), false}, {wide(0, 0), false}, {wide(0, 3, 1, 0, 1, 3), false}, {wide(2, 3, 0, 2, 0, 3), false}, {narrow(1, 1, 3, 4, 2, 3, 2, 4), true}, {narrow(0, 0, 3, 4, 2, 3, 2, 4), false}, {narrow(4, 1, 1, 0, 4, 0, 0, 0), false}} {
		is, e := fan.Full(x.f)
		sameTruth(t, "Full", is, e, x.want, api.OK)
	}
}

// P4.2.
func TestCan(t *testing.T) {
	halves := map[bool]map[int]int{true: {3: 3, 4: 7, 7: 28, 8: 38}, false: {1: 0, 4: 9, 5: 15, 8: 42}}
	for isWide, half := range halves {
		for kinds := 1; kinds <= fan.MaxKinds; kinds++ {
			want, can := half[kinds]
			lost := api.OK
			if !can {
				lost = api.ErrLost
			}
			is, e := fan.Can(kinds, isWide)
			sameTruth(t, "Can", is, e, can, api.OK)
			n, e := fan.Half(kinds, isWide)
			sameNumber(t, "Half", n, e, want, lost)
		}
		for _, kinds := range list(0, -1, 9, 12, 100, math.MinInt, math.MaxInt) {
			is, e := fan.Can(kinds, isWide)
			sameTruth(t, "Can", is, e, false, api.ErrRange)
			n, e := fan.Half(kinds, isWide)
			sameNumber(t, "Half", n, e, 0, api.ErrRange)
		}
	}
}

// P4.3.
func TestPut(t *testing.T) {
	for _, x := range []struct {
		f           fan.Fan
		kind, place int
		want        fan.Fan
		e           api.Errno
	}{
		{narrow(0, 0), 1, 0, narrow(1, 1), api.OK},
		{narrow(0, 0), 1, 1, fan.Fan{}, api.ErrOver},
		{wide(0, 0), 1, 0, fan.Fan{}, api.ErrOver},
		{empty(2, true), 2, 0, wide(2, 0, 0, 2), api.OK},
		{empty(2, true), 2, 1, fan.Fan{}, api.ErrOver},
		{empty(2, false), 2, 1, narrow(0, 2, 0, 2), api.OK},
		{empty(8, false), 8, 7, narrow(0, 0, 0, 0, 0, 0, 0, 8, 0, 0, 0, 0, 0, 0, 0, 8), api.OK},
		{empty(8, true), 8, 7, fan.Fan{}, api.ErrOver},
		{fanM(), 1, 0, narrow(1, 1, 3, 0, 0, 3, 0, 0), api.OK},
		{fanM(), 1, 6, narrow(0, 0, 3, 0, 0, 3, 1, 1), api.OK},
		{fanM(), 1, 7, fan.Fan{}, api.ErrOver},
		{fanM(), 1, 2, fan.Fan{}, api.ErrFull},
		{fanM(), 1, 4, fan.Fan{}, api.ErrFull},
		{wide(0, 3, 1, 0, 1, 3), 2, 0, fanL(), api.OK},
		{fanM(), 0, 0, fan.Fan{}, api.ErrNone},
		{fanM(), 5, 0, fan.Fan{}, api.ErrNone},
		{fanM(), -1, 0, fan.Fan{}, api.ErrNone},
		{fanM(), math.MaxInt, 0, fan.Fan{}, api.ErrNone},
		{fanM(), 1, -1, fan.Fan{}, api.ErrNone},
		{fanM(), 1, 8, fan.Fan{}, api.ErrNone},
		{fanM(), 1, math.MaxInt, fan.Fan{}, api.ErrNone},
		{fanM(), 3, 2, fan.Fan{}, api.ErrTwice},
		{fanM(), 3, 7, fan.Fan{}, api.ErrTwice},
		{fanL(), 1, 0, fan.Fan{}, api.ErrTwice},
	} {
		f, e := fan.Put(x.f, x.kind, x.place)
		sameFan(t, "Put", f, e, x.want, x.e)
	}
}

// P4.3.
func TestTake(t *testing.T) {
	for _, x := range []struct {
		f    fan.Fan
		kind int
		want fan.Fan
		e    api.Errno
	}{
		{fanL(), 1, wide(2, 3, 0, 2, 0, 3), api.OK},
		{fanL(), 3, wide(2, 0, 1, 2, 1, 0), api.OK},
		{fanM(), 3, empty(4, false), api.OK},
		{narrow(1, 1), 1, narrow(0, 0), api.OK},
		{fanM(), 1, fan.Fan{}, api.ErrLost},
		{fanM(), 4, fan.Fan{}, api.ErrLost},
		{wide(0, 0), 1, fan.Fan{}, api.ErrLost},
		{fanM(), 0, fan.Fan{}, api.ErrNone},
		{fanL(), 0, fan.Fan{}, api.ErrNone},
		{fanM(), 5, fan.Fan{}, api.ErrNone},
		{fanM(), -3, fan.Fan{}, api.ErrNone},
		{fanM(), math.MinInt, fan.Fan{}, api.ErrNone},
	} {
		f, e := fan.Take(x.f, x.kind)
		sameFan(t, "Take", f, e, x.want, x.e)
	}
}

// P4.3.
func TestFree(t *testing.T) {
	for _, x := range []struct {
		f    fan.Fan
		kind int
		want []int
		e    api.Errno
	}{
		{narrow(0, 0), 1, list(0), api.OK},
		{wide(0, 0), 1, nil, api.OK},
		{empty(3, true), 1, list(0, 1, 2, 3), api.OK},
		{empty(3, true), 3, list(0, 1), api.OK},
		{empty(8, false), 8, list(0, 1, 2, 3, 4, 5, 6, 7), api.OK},
		{wide(2, 3, 0, 2, 0, 3), 1, list(2), api.OK},
		{wide(1, 0, 1, 0, 0, 0), 3, list(1), api.OK},
		{wide(1, 2, 1, 0, 2, 0), 3, nil, api.OK},
		{fanL(), 1, nil, api.ErrTwice},
		{fanM(), 0, nil, api.ErrNone},
		{fanM(), 5, nil, api.ErrNone},
		{fanM(), math.MinInt, nil, api.ErrNone},
	} {
		l, e := fan.Free(x.f, x.kind)
		same(t, "Free", l, e, x.want, x.e)
	}
}

// P4.4.
func TestPartner(t *testing.T) {
	for place, want := range list(3, 5, 4, 0, 2, 1) {
		n, e := fan.Partner(fanL(), place)
		sameNumber(t, "Partner of L", n, e, want, api.OK)
	}
	for _, x := range []struct {
		f           fan.Fan
		place, want int
		e           api.Errno
	}{
		{narrow(1, 1), 0, 1, api.OK},
		{narrow(1, 1), 1, 0, api.OK},
		{fanM(), 2, 5, api.OK},
		{fanM(), 5, 2, api.OK},
		{fanM(), 7, 0, api.ErrEmpty},
		{fanM(), 8, 0, api.ErrNone},
		{fanM(), 15, 0, api.ErrNone},
		{fanM(), -1, 0, api.ErrNone},
		{fanM(), math.MaxInt, 0, api.ErrNone},
	} {
		n, e := fan.Partner(x.f, x.place)
		sameNumber(t, "Partner", n, e, x.want, x.e)
	}
}

// P4.5.
func TestBetween(t *testing.T) {
	part := narrow(0, 2, 3, 2, 4, 3, 0, 0, 4, 0)
	for _, x := range []struct {
		f                 fan.Fan
		kind              int
		between, crossing []int
		e                 api.Errno
	}{
		{fanL(), 1, list(2), list(2), api.OK},
		{fanM(), 3, list(0, 0), nil, api.OK},
		{narrow(1, 1), 1, nil, nil, api.OK},
		{narrow(1, 1, 3, 4, 2, 3, 2, 4), 1, nil, nil, api.OK},
		{narrow(1, 1, 3, 4, 2, 3, 2, 4), 2, list(3), list(3), api.OK},
		{narrow(1, 1, 3, 4, 2, 3, 2, 4), 3, list(4, 2), list(2, 4), api.OK},
		{narrow(1, 1, 3, 4, 2, 3, 2, 4), 4, list(2, 3, 2), list(3), api.OK},
		{narrow(4, 1, 1, 3, 4, 2, 3, 2), 4, list(1, 1, 3), list(3), api.OK},
		{part, 3, list(2, 4), list(2, 4), api.OK},
		{part, 4, list(3, 0, 0), list(3), api.OK},
		{part, 1, nil, nil, api.ErrLost},
		{part, 5, nil, nil, api.ErrLost},
		{part, 6, nil, nil, api.ErrNone},
		{part, 0, nil, nil, api.ErrNone},
		{part, -1, nil, nil, api.ErrNone},
		{part, math.MaxInt, nil, nil, api.ErrNone},
	} {
		l, e := fan.Between(x.f, x.kind)
		same(t, "Between", l, e, x.between, x.e)
		l, e = fan.Crossing(x.f, x.kind)
		same(t, "Crossing", l, e, x.crossing, x.e)
	}
}

// P4.6.
func TestComplete(t *testing.T) {
	for _, x := range []struct {
		f     fan.Fan
		want  []int
		count int
	}{
		{narrow(0, 0), list(1, 1), 1},
		{narrow(1, 1), list(1, 1), 1},
		{wide(0, 0), nil, 0},
		{fanL(), fanL().Plumes, 1},
		{empty(3, true), list(2, 3, 1, 2, 1, 3), 2},
		{wide(3, 0, 0, 0, 3, 0), list(3, 1, 2, 1, 3, 2), 1},
		{wide(1, 0, 1, 0, 0, 0), nil, 0},
		{wide(0, 0, 4, 0, 0, 0, 0, 4), list(2, 3, 4, 2, 1, 3, 1, 4), 1},
		{empty(4, true), list(2, 3, 4, 2, 1, 3, 1, 4), 2},
		{empty(4, false), list(1, 1, 3, 4, 2, 3, 2, 4), 6},
		{empty(5, false), list(1, 1, 3, 4, 5, 3, 2, 4, 2, 5), 10},
		{narrow(2, 0, 2, 0, 0, 0, 0, 0), list(2, 3, 2, 4, 3, 1, 1, 4), 1},
		{narrow(4, 0, 0, 0, 4, 0, 0, 0), list(4, 1, 1, 3, 4, 2, 3, 2), 2},
		{empty(6, true), nil, 0},
		{empty(7, false), nil, 0},
	} {
		want, lost := fan.Fan{Kinds: x.f.Kinds, Wide: x.f.Wide, Plumes: x.want}, api.OK
		if x.count == 0 {
			want, lost = fan.Fan{}, api.ErrLost
		}
		f, e := fan.Complete(x.f)
		sameFan(t, "Complete", f, e, want, lost)
		n, e := fan.Count(x.f)
		sameNumber(t, "Count", n, e, x.count, api.OK)
	}
}

// P4.7.
func TestTurned(t *testing.T) {
	for _, x := range []struct{ f, want fan.Fan }{
		{narrow(1, 1), narrow(1, 1)},
		{wide(0, 0), wide(0, 0)},
		{narrow(1, 1, 0, 0), narrow(0, 0, 1, 1)},
		{wide(1, 2, 1, 0, 2, 0), wide(0, 2, 0, 1, 2, 1)},
		{fanM(), fanM()},
		{narrow(1, 1, 3, 4, 2, 3, 2, 4), narrow(4, 2, 3, 2, 4, 3, 1, 1)},
	} {
		f, e := fan.Turned(x.f)
		sameFan(t, "Turned", f, e, x.want, api.OK)
	}
}

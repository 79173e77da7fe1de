package fan_test

// All results compared with what the chapter's definitions alone say.

import (
	"slices"
	"strconv"
	"testing"

	"aigrette/api"
	"aigrette/fan"
)

// lists returns all lists of so many numbers from low to high, in ascending order.
func lists(length, low, high int) [][]int {
	if length == 0 {
		return [][]int{nil}
	}
	var made [][]int
	for _, shorter := range lists(length-1, low, high) {
		for n := low; n <= high; n++ {
			made = append(made, append(slices.Clone(shorter), n))
		}
	}
	return made
}

// standing returns the places at which a number stands.
func standing(plumes []int, number int) []int {
	var places []int
	for place, n := range plumes {
		if n == number {
			places = append(places, place)
		}
	}
	return places
}

// apart returns the distance of a kind.
func apart(kind int, isWide bool) int {
	if isWide {
		return kind + 1
	}
	return kind
}

// errorOf returns the error of a fan whose plumes are as many as they should be.
func errorOf(f fan.Fan) api.Errno {
	if slices.Min(f.Plumes) < 0 || slices.Max(f.Plumes) > f.Kinds {
		return api.ErrNone
	}
	for kind := 1; kind <= f.Kinds; kind++ {
		places := standing(f.Plumes, kind)
		if len(places) > 2 {
			return api.ErrMany
		}
		if len(places) == 1 {
			return api.ErrOpen
		}
		if len(places) == 2 && places[1] != places[0]+apart(kind, f.Wide) {
			return api.ErrClash
		}
	}
	return api.OK
}

// P4.1: all lists of plumes of up to three kinds, with one number too small and one too great.
func TestCheckOfAllLists(t *testing.T) {
	for kinds := 1; kinds <= 3; kinds++ {
		for _, plumes := range lists(2*kinds, -1, kinds+1) {
			for _, f := range []fan.Fan{wide(plumes...), narrow(plumes...)} {
				want := errorOf(f)
				if e := fan.Check(f); e != want {
					t.Errorf("Check of %v: %d, want %d", f, e, want)
				}
				is, e := fan.Full(f)
				sameTruth(t, "Full", is, e, want == api.OK && !slices.Contains(plumes, 0), want)
			}
		}
	}
}

// begun returns all fans of so many kinds, full or not: kind by kind, each one left out or at any place.
func begun(kinds int, isWide bool) []fan.Fan {
	fans := []fan.Fan{empty(kinds, isWide)}
	for kind := 1; kind <= kinds; kind++ {
		for _, f := range fans {
			for place := range 2*kinds - apart(kind, isWide) {
				second := place + apart(kind, isWide)
				if f.Plumes[place] == 0 && f.Plumes[second] == 0 {
					plumes := slices.Clone(f.Plumes)
					plumes[place], plumes[second] = kind, kind
					fans = append(fans, fan.Fan{Kinds: kinds, Wide: isWide, Plumes: plumes})
				}
			}
		}
	}
	return fans
}

// allFull returns all full fans of so many kinds, in ascending order of their plumes. It puts in the kinds
// from the greatest to the smallest.
func allFull(kinds int, isWide bool) [][]int {
	var found [][]int
	plumes := make([]int, 2*kinds)
	var from func(kind int)
	from = func(kind int) {
		if kind == 0 {
			found = append(found, slices.Clone(plumes))
			return
		}
		for place := range max(0, 2*kinds-apart(kind, isWide)) {
			second := place + apart(kind, isWide)
			if plumes[place] == 0 && plumes[second] == 0 {
				plumes[place], plumes[second] = kind, kind
				from(kind - 1)
				plumes[place], plumes[second] = 0, 0
			}
		}
	}
	from(kinds)
	slices.SortFunc(found, slices.Compare[[]int])
	return found
}

// agrees tells whether a full list has all that stands in a list.
func agrees(full, plumes []int) bool {
	for place, kind := range plumes {
		if kind != 0 && full[place] != kind {
			return false
		}
	}
	return true
}

// checkCompletions compares the completions of a fan with those of all full fans that agree with it.
func checkCompletions(t *testing.T, f fan.Fan, full [][]int) {
	t.Helper()
	want, lost, count := fan.Fan{}, api.ErrLost, 0
	for _, plumes := range full {
		if !agrees(plumes, f.Plumes) {
			continue
		}
		if count == 0 {
			want, lost = fan.Fan{Kinds: f.Kinds, Wide: f.Wide, Plumes: plumes}, api.OK
		}
		count++
	}
	c, e := fan.Complete(f)
	sameFan(t, "Complete", c, e, want, lost)
	n, e := fan.Count(f)
	sameNumber(t, "Count", n, e, count, api.OK)
}

// P4.2: the full fans of all numbers of kinds.
func TestCanOfAll(t *testing.T) {
	for kinds := 1; kinds <= fan.MaxKinds; kinds++ {
		for _, isWide := range []bool{true, false} {
			full := allFull(kinds, isWide)
			is, e := fan.Can(kinds, isWide)
			sameTruth(t, "Can of "+strconv.Itoa(kinds), is, e, len(full) > 0, api.OK)
			checkCompletions(t, empty(kinds, isWide), full)
		}
	}
}

// P4.6: all fans of up to four kinds that are begun.
func TestCompletionsOfSmallFans(t *testing.T) {
	for kinds := 1; kinds <= 4; kinds++ {
		for _, isWide := range []bool{true, false} {
			full := allFull(kinds, isWide)
			for _, f := range begun(kinds, isWide) {
				checkCompletions(t, f, full)
			}
		}
	}
}

// P4.6: some of what is left of full fans of more kinds if some kinds are taken out, and some that have
// another kind instead.
func TestCompletionsOfLargeFans(t *testing.T) {
	for kinds := 5; kinds <= fan.MaxKinds; kinds++ {
		for _, isWide := range []bool{true, false} {
			full := allFull(kinds, isWide)
			for i := 0; i < len(full); i += 1 + len(full)/17 {
				for set := i % 3; set < 1<<kinds; set += 1 + set%7 {
					f := fan.Fan{Kinds: kinds, Wide: isWide, Plumes: leftOf(full[i], set)}
					checkCompletions(t, f, full)
					if g, e := fan.Put(f, set%kinds+1, i%kinds); e == api.OK {
						checkCompletions(t, g, full)
					}
				}
			}
		}
	}
}

// leftOf returns what is left if the kinds of a set are taken out.
func leftOf(plumes []int, set int) []int {
	left := slices.Clone(plumes)
	for place, kind := range left {
		if set>>(kind-1)&1 == 1 {
			left[place] = 0
		}
	}
	return left
}

// P4.3, P4.4, P4.5, P4.7: all fans of up to four kinds that are begun, with all kinds and places.
func TestPlacesOfSmallFans(t *testing.T) {
	for kinds := 1; kinds <= 4; kinds++ {
		for _, isWide := range []bool{true, false} {
			for _, f := range begun(kinds, isWide) {
				for kind := -1; kind <= kinds+1; kind++ {
					checkPuts(t, f, kind)
					checkKind(t, f, kind)
				}
				checkPlaces(t, f)
			}
		}
	}
}

// errorOfPut returns the error of Put.
func errorOfPut(f fan.Fan, kind, place int) api.Errno {
	if kind < 1 || kind > f.Kinds || place < 0 || place >= len(f.Plumes) {
		return api.ErrNone
	}
	if slices.Contains(f.Plumes, kind) {
		return api.ErrTwice
	}
	second := place + apart(kind, f.Wide)
	if second >= len(f.Plumes) {
		return api.ErrOver
	}
	if f.Plumes[place] != 0 || f.Plumes[second] != 0 {
		return api.ErrFull
	}
	return api.OK
}

func checkPuts(t *testing.T, f fan.Fan, kind int) {
	t.Helper()
	var free []int
	for place := -1; place <= len(f.Plumes); place++ {
		want, wanted := fan.Fan{}, errorOfPut(f, kind, place)
		if wanted == api.OK {
			free = append(free, place)
			want = fan.Fan{Kinds: f.Kinds, Wide: f.Wide, Plumes: slices.Clone(f.Plumes)}
			want.Plumes[place], want.Plumes[place+apart(kind, f.Wide)] = kind, kind
		}
		g, e := fan.Put(f, kind, place)
		sameFan(t, "Put", g, e, want, wanted)
	}
	wanted := api.OK
	if e := errorOfPut(f, kind, 0); e == api.ErrNone || e == api.ErrTwice {
		wanted = e
	}
	l, e := fan.Free(f, kind)
	same(t, "Free", l, e, free, wanted)
}

func checkKind(t *testing.T, f fan.Fan, kind int) {
	t.Helper()
	want, between, crossing := fan.Fan{}, []int(nil), []int(nil)
	wanted := api.ErrNone
	places := standing(f.Plumes, kind)
	if kind >= 1 && kind <= f.Kinds {
		wanted = api.ErrLost
	}
	if wanted == api.ErrLost && len(places) == 2 {
		wanted = api.OK
		want = fan.Fan{Kinds: f.Kinds, Wide: f.Wide, Plumes: slices.Clone(f.Plumes)}
		want.Plumes[places[0]], want.Plumes[places[1]] = 0, 0
		between = f.Plumes[places[0]+1 : places[1]]
		for other := 1; other <= f.Kinds; other++ {
			if len(standing(between, other)) == 1 {
				crossing = append(crossing, other)
			}
		}
	}
	g, e := fan.Take(f, kind)
	sameFan(t, "Take", g, e, want, wanted)
	l, e := fan.Between(f, kind)
	same(t, "Between", l, e, between, wanted)
	l, e = fan.Crossing(f, kind)
	same(t, "Crossing", l, e, crossing, wanted)
}

func checkPlaces(t *testing.T, f fan.Fan) {
	t.Helper()
	turned := fan.Fan{Kinds: f.Kinds, Wide: f.Wide, Plumes: make([]int, len(f.Plumes))}
	for place, kind := range f.Plumes {
		turned.Plumes[len(f.Plumes)-1-place] = kind
		want, wanted := 0, api.ErrEmpty
		if kind != 0 {
			both := standing(f.Plumes, kind)
			want, wanted = both[0]+both[1]-place, api.OK
		}
		n, e := fan.Partner(f, place)
		sameNumber(t, "Partner", n, e, want, wanted)
	}
	g, e := fan.Turned(f)
	sameFan(t, "Turned", g, e, turned, api.OK)
}

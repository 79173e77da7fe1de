package quarrel_test

// The rules of DOC.md for this layer, which has no objects, texts or files. What Grow returns is free (R8): the
// other tests look at nothing but what the copies do.

import (
	"math"
	"reflect"
	"slices"
	"testing"

	"aigrette/api"
	"aigrette/quarrel"
)

// call is a function with arguments: its results, the error last.
type call struct {
	name    string
	results func() []any
}

// callsOfHouse returns the calls of all functions of a house.
func callsOfHouse(h quarrel.House, size, a, b int, copies [][2]int) []call {
	return []call{
		{"Check", func() []any { e := quarrel.Check(h); return []any{e} }},
		{"Often", func() []any { l, e := quarrel.Often(h); return []any{l, e} }},
		{"Brawl", func() []any { l, e := quarrel.Brawl(h); return []any{l, e} }},
		{"Count", func() []any { n, e := quarrel.Count(h, size); return []any{n, e} }},
		{"Rooms", func() []any { l, e := quarrel.Rooms(h); return []any{l, e} }},
		{"Parted", func() []any { a, b, c, e := quarrel.Parted(h); return []any{a, b, c, e} }},
		{"Groups", func() []any { g, e := quarrel.Groups(h); return []any{g, e} }},
		{"Copy", func() []any { other, e := quarrel.Copy(h, a, b); return []any{other, e} }},
		{"Grow", func() []any { l, e := quarrel.Grow(h); return []any{l, e} }},
		{"Grows", func() []any { e := quarrel.Grows(h, copies); return []any{e} }},
	}
}

// callsOfNumbers returns the calls of all functions of numbers alone.
func callsOfNumbers(people, number int) []call {
	return []call{
		{"Most", func() []any { n, e := quarrel.Most(people, number); return []any{n, e} }},
		{"Even", func() []any { h, e := quarrel.Even(people, number); return []any{h, e} }},
	}
}

// extreme returns numbers of which most are out of bounds.
func extreme() []int {
	return list(math.MinInt, -1<<32, -9, -1, 0, 1, 2, 3, 4, 7, 8, 9, 1<<32, 1<<62, math.MaxInt)
}

// manyHouses returns houses, and some that are none.
func manyHouses() []quarrel.House {
	houses := []quarrel.House{exampleH(), exampleK(), crown(), spindle(), {}}
	for _, x := range wrong() {
		houses = append(houses, x.house)
	}
	for people := 1; people <= 8; people++ {
		houses = append(houses, house(people), everybody(people))
		for seed := range 3 {
			houses = append(houses, drawnHouse(people, seed))
		}
	}
	return houses
}

// everyCall calls do with the calls of all functions with many arguments, many of them invalid.
func everyCall(do func(call call, arguments ...any)) {
	for i, h := range manyHouses() {
		for j, a := range extreme() {
			for k, b := range extreme() {
				size := extreme()[(i+j+k)%len(extreme())]
				copies := pairs(i%5, j%5, a, b, k%5, j%5)[i%4/2:]
				for _, call := range callsOfHouse(h, size, a, b, copies) {
					do(call, h, size, a, b, copies)
				}
			}
		}
	}
	for _, people := range extreme() {
		for _, number := range extreme() {
			for _, call := range callsOfNumbers(people, number) {
				do(call, people, number)
			}
		}
	}
}

// P1, R5, F8: each call returns, and returns the same again.
func TestSameAgain(t *testing.T) {
	everyCall(func(call call, arguments ...any) {
		if one, two := call.results(), call.results(); !reflect.DeepEqual(one, two) {
			t.Errorf("%s%v: %v, then %v", call.name, arguments, one, two)
		}
	})
}

// P1: Grows returns with many copies, too.
func TestManyCopies(t *testing.T) {
	copies := slices.Repeat(pairs(0, 2, 2, 0), 10000)
	sameError(t, "Grows of many copies", quarrel.Grows(exampleK(), copies), api.OK)
	sameError(t, "Grows of one too many", quarrel.Grows(exampleK(), append(copies, [2]int{0, 1})), api.ErrClash)
}

// R1: where several errors apply, the one that the chapter names first counts.
func TestFirstError(t *testing.T) {
	_, often := quarrel.Often(house(9, 9, 9))
	_, size := quarrel.Count(house(2, 1, 0), 0)
	_, copied := quarrel.Copy(house(2, 0, 1, 0, 1), 5, 5)
	_, none := quarrel.Copy(exampleH(), 7, 7)
	_, other := quarrel.Copy(exampleH(), 0, 7)
	_, clash := quarrel.Groups(house(3, 0, 1, 2, 2))
	_, _, _, proof := quarrel.Parted(house(3, 0, 1, 1, 0))
	_, most := quarrel.Most(0, 9)
	for _, x := range []struct {
		name      string
		got, want api.Errno
	}{
		{"range before none", quarrel.Check(house(0, 0, 1)), api.ErrRange},
		{"none before order", quarrel.Check(house(2, 2, 0)), api.ErrNone},
		{"none before order, both none", quarrel.Check(house(2, 5, 5)), api.ErrNone},
		{"order before twice", quarrel.Check(house(2, 1, 0, 1, 0)), api.ErrOrder},
		{"order of the first pair before none of the second one", quarrel.Check(house(2, 1, 0, 0, 2)), api.ErrOrder},
		{"twice of the second pair before none of the third one", quarrel.Check(house(2, 0, 1, 0, 1, 0, 2)), api.ErrTwice},
		{"twice of the second pair before order of the third one", quarrel.Check(house(2, 0, 1, 0, 1, 1, 0)), api.ErrTwice},
		{"none of the first pair before order of the second one", quarrel.Check(house(2, 0, 2, 1, 0)), api.ErrNone},
		{"the error of Check in Often", often, api.ErrRange},
		{"the error of Check before the range of Count", size, api.ErrOrder},
		{"the error of Check before none of Copy", copied, api.ErrTwice},
		{"none before clash of Copy", none, api.ErrNone},
		{"none of the one who copies", other, api.ErrNone},
		{"the error of Check before clash of Groups", clash, api.ErrOrder},
		{"the error of Check before the proof of Parted", proof, api.ErrOrder},
		{"the error of Check before that of a copy", quarrel.Grows(house(2, 0, 2), pairs(0, 0)), api.ErrNone},
		{"the first copy before the second one", quarrel.Grows(exampleH(), pairs(0, 1, 5, 5)), api.ErrClash},
		{"the second copy before the proof", quarrel.Grows(exampleH(), pairs(0, 2, 5, 5)), api.ErrNone},
		{"the range of both", most, api.ErrRange},
	} {
		sameError(t, x.name, x.got, x.want)
	}
}

// zero tells whether a result is a zero value, or a list without elements.
func zero(result any) bool {
	v := reflect.ValueOf(result)
	return v.IsZero() || v.Kind() == reflect.Slice && v.Len() == 0
}

// R2: besides an error all results are zero values, but the three people who are the proof of Parted.
func TestZeroBesidesError(t *testing.T) {
	everyCall(func(call call, arguments ...any) {
		results := call.results()
		last := len(results) - 1
		if results[last] == api.OK || call.name == "Parted" && results[last] == api.ErrProof {
			return
		}
		if slices.ContainsFunc(results[:last], func(r any) bool { return !zero(r) }) {
			t.Errorf("%s%v: %v", call.name, arguments, results)
		}
	})
}

// alike tells whether results are equal, lists without elements among them.
func alike(one, other any) bool {
	if h, ok := one.(quarrel.House); ok {
		return isSame(h, other.(quarrel.House))
	}
	return reflect.DeepEqual(one, other) || reflect.TypeOf(one).Kind() == reflect.Slice && zero(one) && zero(other)
}

// R3: lists without elements are equal, nil or not: houses without quarrels, and no copies.
func TestEmptyLists(t *testing.T) {
	for _, people := range extreme() {
		none, empty := house(people), quarrel.House{People: people, Quarrels: [][2]int{}}
		others := callsOfHouse(empty, 1, 1, 0, [][2]int{})
		for i, call := range callsOfHouse(none, 1, 1, 0, nil) {
			if one, other := call.results(), others[i].results(); !slices.EqualFunc(one, other, alike) {
				t.Errorf("R3: %s of %d: %v, %v", call.name, people, one, other)
			}
		}
	}
	for _, h := range manyHouses() {
		sameError(t, "R3: Grows", quarrel.Grows(h, [][2]int{}), quarrel.Grows(h, nil))
	}
}

// overwrite changes all elements of a result, and what is behind them in its memory.
func overwrite(result any) {
	switch l := result.(type) {
	case []int:
		l = l[:cap(l)]
		for i := range l {
			l[i] = 77
		}
	case [][]int:
		// one of the lists alone, so that the others show what they share with it
		if len(l) > 0 {
			overwrite(l[0])
		}
	case [][2]int:
		l = l[:cap(l)]
		for i := range l {
			l[i] = [2]int{77, 78}
		}
	case quarrel.House:
		overwrite(l.Quarrels)
	}
}

// roomy returns a copy of pairs with room behind them.
func roomy(l [][2]int) [][2]int {
	return append(make([][2]int, 0, len(l)+5), l...)
}

// checkOwnResults checks that none of the results of a call changes those of another one.
func checkOwnResults(t *testing.T, call call, arguments ...any) {
	t.Helper()
	before, earlier := call.results(), call.results()
	for _, result := range call.results() {
		overwrite(result)
	}
	if again := call.results(); !reflect.DeepEqual(again, before) || !reflect.DeepEqual(earlier, before) {
		t.Errorf("R4: %s%v: %v, then %v", call.name, arguments, before, again)
	}
}

// R4: results share no memory with arguments or other results, and arguments stay.
func TestOwnMemory(t *testing.T) {
	for i, h := range manyHouses() {
		copies := roomy(pairs(i%4, i/4%4, i/16%4, i%4))
		h.Quarrels = roomy(h.Quarrels)
		givenCopies, given := slices.Clone(copies[:cap(copies)]), slices.Clone(h.Quarrels[:cap(h.Quarrels)])
		for a := range 8 {
			for b := range 8 {
				for _, call := range callsOfHouse(h, a, a, b, copies) {
					checkOwnResults(t, call, h, a, b)
					if !slices.Equal(given, h.Quarrels[:cap(h.Quarrels)]) || !slices.Equal(givenCopies, copies[:cap(copies)]) {
						t.Fatalf("R4: %s changed its arguments: %v %v", call.name, h, copies)
					}
				}
			}
		}
	}
	for people := range 10 {
		for number := range 10 {
			for _, call := range callsOfNumbers(people, number) {
				checkOwnResults(t, call, people, number)
			}
		}
	}
}

// R4: the groups share no memory with each other.
func TestOwnMemoryOfGroups(t *testing.T) {
	for people := 1; people <= 8; people++ {
		for number := 1; number <= 8; number++ {
			h := evenOf(t, people, number)
			wanted := checked[[][]int](t, "Groups")(quarrel.Groups(h))
			for i := range wanted {
				groups := checked[[][]int](t, "Groups")(quarrel.Groups(h))
				overwrite(groups[i])
				for j, group := range groups {
					if j != i {
						same(t, "R4: a group", group, api.OK, wanted[j], api.OK)
					}
				}
			}
		}
	}
}

// R4: a house and copies may share their memory; a house that was copied is another one.
func TestSharedArguments(t *testing.T) {
	shared := pairs(0, 1, 0, 2, 1, 3)
	h := quarrel.House{People: 4, Quarrels: shared[:1]}
	sameError(t, "Grows of shared memory", quarrel.Grows(h, shared[1:]), growsOf(house(4, 0, 1), pairs(0, 2, 1, 3)))
	if !slices.Equal(shared, pairs(0, 1, 0, 2, 1, 3)) {
		t.Errorf("R4: the arguments: %v", shared)
	}
	h = exampleK()
	after := checked[quarrel.House](t, "Copy")(quarrel.Copy(h, 0, 2))
	h.Quarrels[0] = [2]int{7, 7}
	if !isSame(after, exampleK()) {
		t.Errorf("R4: a house that was copied: %v", after)
	}
}

// R6: brawls, groups and quarrels ascend.
func TestAscending(t *testing.T) {
	someHouses(func(h quarrel.House) {
		ascending := lists(checked[[]int](t, "Brawl")(quarrel.Brawl(h)))
		groups, _ := quarrel.Groups(h)
		ascending = append(ascending, groups...)
		for _, l := range ascending {
			if !slices.IsSorted(l) {
				t.Errorf("R6: %v: %v", h, l)
			}
		}
		if !slices.IsSortedFunc(groups, func(a, b []int) int { return a[0] - b[0] }) {
			t.Errorf("R6: Groups of %v: %v", h, groups)
		}
		for person := range h.People {
			after, _ := quarrel.Copy(h, 0, person)
			if !slices.IsSortedFunc(after.Quarrels, func(a, b [2]int) int { return slices.Compare(a[:], b[:]) }) {
				t.Errorf("R6: Copy of %v: %v", h, after)
			}
			sameError(t, "Check of Copy", errorOf(after), quarrel.Check(after))
		}
	})
}

// R7: bounds include both ends.
func TestBothEnds(t *testing.T) {
	for number := -2; number <= 12; number++ {
		wanted := api.OK
		if number < 1 || number > quarrel.MaxPeople {
			wanted = api.ErrRange
		}
		_, count := quarrel.Count(exampleH(), number)
		_, most := quarrel.Most(number, 1)
		_, brawl := quarrel.Most(1, number)
		_, even := quarrel.Even(number, 1)
		_, groups := quarrel.Even(1, number)
		for i, e := range []api.Errno{quarrel.Check(house(number)), count, most, brawl, even, groups} {
			if e != wanted {
				t.Errorf("R7: %d: %d of %d, want %d", number, e, i, wanted)
			}
		}
	}
	for person := -2; person <= 12; person++ {
		_, a := quarrel.Copy(house(5), person, (person+6)%5)
		_, b := quarrel.Copy(house(5), (person+6)%5, person)
		if is := person >= 0 && person <= 4; is != (a != api.ErrNone) || is != (b != api.ErrNone) {
			t.Errorf("R7: Copy of person %d: %d %d", person, a, b)
		}
		check := quarrel.Check(house(5, 0, person))
		if is := person >= 0 && person <= 4; is != (check != api.ErrNone) {
			t.Errorf("R7: quarrel with person %d: %d", person, check)
		}
	}
}

// The limits that the chapter names.
func TestLimits(t *testing.T) {
	if quarrel.MaxPeople != 8 {
		t.Errorf("MaxPeople: %d", quarrel.MaxPeople)
	}
}

package packet

// The rules of DOC.md for this layer. Its results are never free (R8), and it has no texts (R9), objects or files.

import (
	"math"
	"reflect"
	"slices"
	"testing"

	"aigrette/api"
)

// call is a function with arguments: its results, the error last.
type call struct {
	name    string
	results func() []any
}

func calls(sizes, stock []int, n, k int, filling []int) []call {
	return []call{
		{"Check", func() []any { e := Check(sizes); return []any{e} }},
		{"Can", func() []any { a, e := Can(sizes, n); return []any{a, e} }},
		{"Make", func() []any { a, e := Make(sizes, n); return []any{a, e} }},
		{"Why", func() []any { a, b, e := Why(sizes, n); return []any{a, b, e} }},
		{"Remainders", func() []any { a, e := Remainders(sizes, k); return []any{a, e} }},
		{"Gaps", func() []any { a, e := Gaps(sizes); return []any{a, e} }},
		{"Greatest", func() []any { a, e := Greatest(sizes); return []any{a, e} }},
		{"Even", func() []any { a, e := Even(sizes); return []any{a, e} }},
		{"Needed", func() []any { a, e := Needed(sizes); return []any{a, e} }},
		{"Verify", func() []any { e := Verify(sizes, stock, n, filling); return []any{e} }},
		{"Fill", func() []any { a, e := Fill(sizes, stock, n); return []any{a, e} }},
		{"Ways", func() []any { a, e := Ways(sizes, stock, n); return []any{a, e} }},
		{"Totals", func() []any { a, e := Totals(sizes, stock); return []any{a, e} }},
		{"Least", func() []any { a, e := Least(sizes, stock, n); return []any{a, e} }},
		{"Span", func() []any { a, b, e := Span(sizes, stock, n, k); return []any{a, b, e} }},
	}
}

// everyArgument calls do with many combinations of arguments, most of them invalid.
func everyArgument(do func(sizes, stock []int, n, k int, filling []int)) {
	numbers := list(math.MinInt, -1, 0, 1, 2, 11, 1000, 1001, math.MaxInt)
	listsOf := [][]int{nil, {}, {0}, {1}, {2, 5}, {5, 2}, {3, 2}, {3, 3}, {-1, 2}, {3, 41}, {6, 10, 15}, {1, 2, 3, 4, 5}, {26, 27, 28, 29, 30}, {40, 40, 40, 40, 40}, {1, 2, 3, 4, 5, 6}, {math.MinInt, math.MaxInt}, {math.MaxInt}, {1, math.MaxInt}}
	for _, sizes := range listsOf {
		for _, stock := range listsOf {
			for _, n := range numbers {
				do(sizes, stock, n, numbers[(len(sizes)+len(stock)+n&7)%len(numbers)], listsOf[(n&15+len(stock))%len(listsOf)])
			}
		}
	}
}

// P1, R5, F8: each call returns, and returns the same again.
func TestSameAgain(t *testing.T) {
	everyArgument(func(sizes, stock []int, n, k int, filling []int) {
		for _, c := range calls(sizes, stock, n, k, filling) {
			if one, two := c.results(), c.results(); !reflect.DeepEqual(one, two) {
				t.Errorf("%s(%v, %v, %d, %d, %v): %v, then %v", c.name, sizes, stock, n, k, filling, one, two)
			}
		}
	})
}

// R1: where several errors apply, the one that the chapter names first counts.
func TestFirstError(t *testing.T) {
	for _, x := range []struct {
		name      string
		got, want api.Errno
	}{
		{"many before range", Check(list(0, 0, 0, 0, 0, 99)), api.ErrMany},
		{"range before order of one size", Check(list(5, -3)), api.ErrRange},
		{"the first size counts", Check(list(5, 4, 99)), api.ErrOrder},
		{"sizes before stock", Verify(nil, list(99), -1, nil), api.ErrEmpty},
		{"shape of the stock before its range", Verify(list(2, 5), list(99), -1, nil), api.ErrShape},
		{"stock before n", Verify(list(2, 5), list(1), 1001, nil), api.ErrShape},
		{"n before filling", Verify(list(2, 5), list(1, 1), 1001, nil), api.ErrRange},
		{"shape of the filling before its range", Verify(list(2, 5), list(1, 1), 7, list(9)), api.ErrShape},
		{"range of the filling before its sum", Verify(list(2, 5), list(1, 1), 7, list(9, 9)), api.ErrRange},
	} {
		if x.got != x.want {
			t.Errorf("%s: %d, want %d", x.name, x.got, x.want)
		}
	}
}

// R2: besides an error all results are zero values.
func TestZeroBesidesError(t *testing.T) {
	everyArgument(func(sizes, stock []int, n, k int, filling []int) {
		for _, c := range calls(sizes, stock, n, k, filling) {
			results := c.results()
			last := len(results) - 1
			if results[last] == api.OK {
				continue
			}
			for _, r := range results[:last] {
				if l, ok := r.([]int); ok && len(l) > 0 || !ok && !reflect.ValueOf(r).IsZero() {
					t.Errorf("%s(%v, %v, %d, %d): %v", c.name, sizes, stock, n, k, results)
				}
			}
		}
	})
}

// R3: a list without elements is the same if it is nil.
func TestEmptyLists(t *testing.T) {
	for i, c := range calls(nil, nil, 0, 0, nil) {
		if other := calls([]int{}, []int{}, 0, 0, []int{})[i]; !reflect.DeepEqual(c.results(), other.results()) {
			t.Errorf("%s: %v and %v", c.name, c.results(), other.results())
		}
	}
	for i, c := range calls(list(2, 5), nil, 7, 0, nil) {
		if other := calls(list(2, 5), []int{}, 7, 0, []int{})[i]; !reflect.DeepEqual(c.results(), other.results()) {
			t.Errorf("%s: %v and %v", c.name, c.results(), other.results())
		}
	}
	one := Verify(list(2, 5), list(1, 1), 0, nil)
	if other := Verify(list(2, 5), list(1, 1), 0, []int{}); one != other {
		t.Errorf("Verify: %d and %d", one, other)
	}
}

// R4: arguments are not changed, and a changed result changes neither them nor later results.
func TestOwnMemory(t *testing.T) {
	room := list(3, 4, 5, 77, 78)
	roomOfStock := list(4, 2, 3, 79, 80)
	roomOfFilling := list(1, 1, 1, 81, 82)
	sizes, stock, filling := room[:3], roomOfStock[:3], roomOfFilling[:3]
	for _, c := range calls(sizes, stock, 12, 1, filling) {
		if l, ok := c.results()[0].([]int); ok {
			kept := slices.Clone(l)
			for i := range l {
				l[i] = -9
			}
			if again := c.results()[0].([]int); !slices.Equal(again, kept) {
				t.Errorf("%s: %v, then %v", c.name, kept, again)
			}
		}
		if !slices.Equal(room, list(3, 4, 5, 77, 78)) || !slices.Equal(roomOfStock, list(4, 2, 3, 79, 80)) || !slices.Equal(roomOfFilling, list(1, 1, 1, 81, 82)) {
			t.Fatalf("%s changed an argument: %v %v %v", c.name, room, roomOfStock, roomOfFilling)
		}
	}
}

// R6: of two fillings with as few packets the smaller list is better.
func TestSmallerList(t *testing.T) {
	for _, x := range []struct {
		sizes, stock []int
		n            int
		want         []int
	}{
		{list(2, 3, 4), list(9, 9, 9), 6, list(0, 2, 0)},
		{list(2, 3, 4), list(9, 1, 9), 6, list(1, 0, 1)},
		{list(1, 2, 3, 4), list(9, 9, 9, 9), 5, list(0, 1, 1, 0)},
		{list(1, 4, 6, 9), list(9, 9, 9, 9), 10, list(0, 1, 1, 0)},
	} {
		if got, e := Fill(x.sizes, x.stock, x.n); e != api.OK || !slices.Equal(got, x.want) {
			t.Errorf("Fill(%v, %v, %d) = %v %d, want %v", x.sizes, x.stock, x.n, got, e, x.want)
		}
	}
	for n := range 60 {
		made, _ := Make(list(1, 2, 3, 4, 6), n)
		if want := best(allFillings(list(1, 2, 3, 4, 6), plenty(list(1, 2, 3, 4, 6), n), n)); !slices.Equal(made, want) {
			t.Errorf("Make of %d: %v, want %v", n, made, want)
		}
	}
}

// R7: bounds include both ends.
func TestBothEnds(t *testing.T) {
	for name, e := range errorsOf(list(1, 30), list(0, 40), 1000, 1, list(0, 40)) {
		want := api.OK
		switch name {
		case "Why":
			want = api.ErrClash
		case "Greatest", "Fill", "Least", "Span":
			want = api.ErrLost
		case "Verify":
			want = api.ErrSum
		}
		if e != want {
			t.Errorf("%s: %d, want %d", name, e, want)
		}
	}
	if filling, e := Fill(list(1, 25), list(0, 40), 1000); e != api.OK || !slices.Equal(filling, list(0, 40)) {
		t.Errorf("Fill of 1000: %v %d", filling, e)
	}
	if filling, e := Fill(list(1, 30), list(0, 40), 0); e != api.OK || !slices.Equal(filling, list(0, 0)) {
		t.Errorf("Fill of 0: %v %d", filling, e)
	}
}

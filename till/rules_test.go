package till_test

// The rules of DOC.md for this layer, which has no lists as arguments, no objects or files, and leaves
// nothing free (R8).

import (
	"math"
	"reflect"
	"slices"
	"strings"
	"testing"

	"aigrette/api"
	"aigrette/till"
)

// call is a function with arguments: its results, the error last.
type call struct {
	name    string
	results func() []any
}

// callsOfOrder returns the calls of all functions of an order alone.
func callsOfOrder(order string) []call {
	return []call{
		{"Check", func() []any { e := till.Check(order); return []any{e} }},
		{"Needs", func() []any { x, e := till.Needs(order); return []any{x, e} }},
		{"Pairs", func() []any { x, e := till.Pairs(order); return []any{x, e} }},
	}
}

// callsWithBegin returns the calls of all functions of an order and a number of coins.
func callsWithBegin(order string, begin int) []call {
	return []call{
		{"Coins", func() []any { x, e := till.Coins(order, begin); return []any{x, e} }},
		{"Lacks", func() []any { x, e := till.Lacks(order, begin); return []any{x, e} }},
		{"Number", func() []any { x, e := till.Number(order, begin); return []any{x, e} }},
		{"Turns", func() []any { x, e := till.Turns(order, begin); return []any{x, e} }},
		{"Exchange", func() []any { x, e := till.Exchange(order, begin); return []any{x, e} }},
		{"Served", func() []any { x, e := till.Served(order, begin); return []any{x, e} }},
	}
}

// callsOfCount returns the calls of all functions of numbers of customers.
func callsOfCount(coins, notes, begin, number int) []call {
	return []call{
		{"Count", func() []any { x, e := till.Count(coins, notes, begin); return []any{x, e} }},
		{"First", func() []any { x, e := till.First(coins, notes, begin); return []any{x, e} }},
		{"At", func() []any { x, e := till.At(coins, notes, begin, number); return []any{x, e} }},
	}
}

// everyCall calls do with the calls of all functions with many arguments, most of them invalid.
func everyCall(do func(call call, arguments ...any)) {
	extreme := list(math.MinInt, -21, -1, 0, 1, 2, 3, 5, 8, 15, 16, 17, 19, 20, 21, 1<<62, math.MaxInt)
	bad, _ := wrong()
	for _, order := range append(bad, orders(5)...) {
		for _, call := range callsOfOrder(order) {
			do(call, order)
		}
		for _, begin := range extreme {
			for _, call := range callsWithBegin(order, begin) {
				do(call, order, begin)
			}
		}
	}
	for _, coins := range extreme {
		for _, notes := range extreme {
			for i, begin := range extreme {
				for j := range 4 {
					number := extreme[(5*i+3*j)%len(extreme)]
					for _, call := range callsOfCount(coins, notes, begin, number) {
						do(call, coins, notes, begin, number)
					}
				}
			}
		}
	}
}

// P1, R5, R9, F8: each call returns, and returns the same again.
func TestSameAgain(t *testing.T) {
	everyCall(func(call call, arguments ...any) {
		if one, two := call.results(), call.results(); !reflect.DeepEqual(one, two) {
			t.Errorf("%s(%q): %v, then %v", call.name, arguments, one, two)
		}
	})
}

// R1: where several errors apply, the one that the chapter names first counts.
func TestFirstError(t *testing.T) {
	long := strings.Repeat("x", 17)
	_, form := till.Coins("x", 21)
	_, bounds := till.Coins("n", -1)
	_, keep := till.Turns("cx", -1)
	_, pairs := till.Pairs("nx")
	_, number := till.Number("n", 21)
	_, first := till.First(1, 2, 21)
	_, lost := till.First(0, 17, 0)
	for _, x := range []struct {
		name      string
		got, want api.Errno
	}{
		{"many before form", till.Check(long), api.ErrMany},
		{"form before range", form, api.ErrForm},
		{"range before proof", bounds, api.ErrRange},
		{"form before the range of keep", keep, api.ErrForm},
		{"form before proof", pairs, api.ErrForm},
		{"range before proof of Number", number, api.ErrRange},
		{"the range of begin before lost", first, api.ErrRange},
		{"the range of notes before lost", lost, api.ErrRange},
	} {
		if x.got != x.want {
			t.Errorf("%s: %d, want %d", x.name, x.got, x.want)
		}
	}
}

// zero tells whether a result is a zero value, or a list without elements.
func zero(result any) bool {
	v := reflect.ValueOf(result)
	return v.IsZero() || v.Kind() == reflect.Slice && v.Len() == 0
}

// R2: besides an error all results are zero values.
func TestZeroBesidesError(t *testing.T) {
	everyCall(func(call call, arguments ...any) {
		results := call.results()
		last := len(results) - 1
		if results[last] != api.OK && slices.ContainsFunc(results[:last], func(r any) bool { return !zero(r) }) {
			t.Errorf("%s(%q): %v", call.name, arguments, results)
		}
	})
}

// R3: an order without customers has empty results.
func TestEmptyOrder(t *testing.T) {
	for _, begin := range list(0, 1, 20) {
		for _, call := range append(callsOfOrder(""), callsWithBegin("", begin)...) {
			wanted := api.OK
			if call.name == "Lacks" || call.name == "Exchange" {
				wanted = api.ErrLost
			}
			results := call.results()
			last := len(results) - 1
			if results[last] != wanted || slices.ContainsFunc(results[:last], func(r any) bool { return !zero(r) }) {
				t.Errorf("%s of no customers: %v, want %d", call.name, results, wanted)
			}
		}
	}
}

// overwrite changes all elements of a result, and what is behind them in its memory.
func overwrite(result any) {
	switch x := result.(type) {
	case []int:
		x = x[:cap(x)]
		for i := range x {
			x[i] = 99
		}
	case [][2]int:
		x = x[:cap(x)]
		for i := range x {
			x[i] = [2]int{99, 99}
		}
	}
}

// R4: a changed result does not change results, neither earlier nor later ones.
func TestOwnMemory(t *testing.T) {
	for _, order := range []string{"ccncnn", "ccnncncc", "nncnccc", strings.Repeat("cn", 8)} {
		for _, call := range append(callsOfOrder(order), callsWithBegin(order, 2)...) {
			before, earlier, changed := call.results(), call.results(), call.results()
			overwrite(changed[0])
			if again := call.results(); !reflect.DeepEqual(again, before) || !reflect.DeepEqual(earlier, before) {
				t.Errorf("%s of %s: %v, then %v", call.name, order, before, again)
			}
		}
	}
}

// R6: Turns is ascending, the pairs are in the order of their customers with a note, and orders are
// numbered as strings are compared.
func TestSmallerList(t *testing.T) {
	everyOrder(func(order string, begin int) {
		turns, _ := till.Turns(order, begin)
		pairs, _ := till.Pairs(order)
		byNote := func(a, b [2]int) int { return a[1] - b[1] }
		if !slices.IsSorted(turns) || !slices.IsSortedFunc(pairs, byNote) {
			t.Errorf("%s: Turns: %v, Pairs: %v", order, turns, pairs)
		}
	})
	var before string
	for number := range count(t, 6, 5, 1) {
		order, e := till.At(6, 5, 1, number)
		if e != api.OK || order <= before {
			t.Errorf("At of 6, 5, 1: %d: %q %d, after %q", number, order, e, before)
		}
		before = order
	}
}

// R7: bounds include both ends.
func TestBothEnds(t *testing.T) {
	for begin := -1; begin <= till.MaxCoins+1; begin++ {
		wanted := api.OK
		if begin < 0 || begin > till.MaxCoins {
			wanted = api.ErrRange
		}
		_, coins := till.Coins("cn", begin)
		_, turns := till.Turns("cn", begin)
		_, count := till.Count(8, 8, begin)
		if coins != wanted || turns != wanted || count != wanted {
			t.Errorf("%d coins: %d %d %d, want %d", begin, coins, turns, count, wanted)
		}
	}
	for coins := -1; coins <= till.MaxCustomers+1; coins++ {
		for notes := -1; notes <= till.MaxCustomers+1; notes++ {
			wanted := api.OK
			if coins < 0 || notes < 0 || coins+notes > till.MaxCustomers {
				wanted = api.ErrRange
			}
			if _, e := till.Count(coins, notes, 20); e != wanted {
				t.Errorf("Count of %d, %d: %d, want %d", coins, notes, e, wanted)
			}
		}
	}
	for customers := range till.MaxCustomers + 2 {
		wanted := api.OK
		if customers > till.MaxCustomers {
			wanted = api.ErrMany
		}
		if e := till.Check(strings.Repeat("c", customers)); e != wanted {
			t.Errorf("Check of %d customers: %d, want %d", customers, e, wanted)
		}
	}
}

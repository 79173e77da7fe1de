package packet

import (
	"math"
	"slices"
	"testing"

	"aigrette/api"
)

// The table of examples of chapter 1, row by row.
func TestExamples(t *testing.T) {
	is := func(row string, ok bool) {
		t.Helper()
		if !ok {
			t.Errorf("row %q", row)
		}
	}
	numbers := func(l []int, e api.Errno) func(...int) bool {
		return func(want ...int) bool { return e == api.OK && slices.Equal(l, want) }
	}
	errorOf := func(_ any, e api.Errno) api.Errno { return e }

	is("Gaps of 3, 5", numbers(Gaps(list(3, 5)))(1, 2, 4, 7))
	n, e := Greatest(list(3, 5))
	is("Greatest of 3, 5", n == 7 && e == api.OK)
	even, e := Even(list(3, 5))
	is("Even of 3, 5", even && e == api.OK)

	is("Gaps of 4, 6", errorOf(Gaps(list(4, 6))) == api.ErrOver)
	is("Gaps of 1, 9", numbers(Gaps(list(1, 9)))())
	is("Greatest of 1, 9", errorOf(Greatest(list(1, 9))) == api.ErrLost)

	n, e = Greatest(list(6, 10, 15))
	is("Greatest of 6, 10, 15", n == 29 && e == api.OK)
	is("Remainders of 6, 10, 15", numbers(Remainders(list(6, 10, 15), 0))(0, 25, 20, 15, 10, 35))

	can, e := Can(list(6, 10, 15), 29)
	is("Can of 29", !can && e == api.OK)
	can, e = Can(list(6, 10, 15), 31)
	is("Can of 31", can && e == api.OK)
	r, n, e := Why(list(6, 10, 15), 29)
	is("Why of 29", r == 5 && n == 35 && e == api.OK)
	r, n, e = Why(list(6, 10, 15), 25)
	is("Why of 25", r == 0 && n == 0 && e == api.ErrClash)
	r, n, e = Why(list(4, 6), 7)
	is("Why of 4, 6: 7", r == 3 && n == -1 && e == api.OK)

	is("Make of 6, 10, 15: 31", numbers(Make(list(6, 10, 15), 31))(1, 1, 1))
	is("Make of 3, 5: 15", numbers(Make(list(3, 5), 15))(0, 3))
	is("Make of 1, 4, 6: 8", numbers(Make(list(1, 4, 6), 8))(0, 2, 0))
	is("Needed of 3, 5, 6, 8", numbers(Needed(list(3, 5, 6, 8)))(0, 1))
	even, e = Even(list(3, 4, 5))
	is("Even of 3, 4, 5", !even && e == api.OK)

	is("Fill of 10", numbers(Fill(list(2, 5), list(3, 2), 10))(0, 2))
	is("Fill of 11", numbers(Fill(list(2, 5), list(3, 2), 11))(3, 1))
	is("Fill of 13", errorOf(Fill(list(2, 5), list(3, 2), 13)) == api.ErrLost)
	is("Fill of 15", errorOf(Fill(list(2, 5), list(3, 2), 15)) == api.ErrLost)

	n, e = Ways(list(2, 5), list(5, 2), 10)
	is("Ways of 10", n == 2 && e == api.OK)
	least, most, e := Span(list(2, 5), list(5, 2), 10, 0)
	is("Span of 10", least == 0 && most == 5 && e == api.OK)
	is("Totals of 1, 1", numbers(Totals(list(2, 5), list(1, 1)))(0, 2, 5, 7))
	n, e = Least(list(2, 5), list(1, 1), 3)
	is("Least of 3", n == 5 && e == api.OK)
	is("Least of 8", errorOf(Least(list(2, 5), list(1, 1), 8)) == api.ErrLost)
}

// P1.1: Check, with both ends of its bounds, and which error comes first.
func TestCheck(t *testing.T) {
	for _, x := range []struct {
		sizes []int
		want  api.Errno
	}{
		{list(1), api.OK},
		{list(30), api.OK},
		{list(1, 2, 3, 4, 5), api.OK},
		{list(26, 27, 28, 29, 30), api.OK},
		{nil, api.ErrEmpty},
		{list(), api.ErrEmpty},
		{list(1, 2, 3, 4, 5, 6), api.ErrMany},
		{list(0, 0, 0, 0, 0, 0), api.ErrMany},
		{list(0), api.ErrRange},
		{list(31), api.ErrRange},
		{list(-1), api.ErrRange},
		{list(math.MinInt), api.ErrRange},
		{list(math.MaxInt), api.ErrRange},
		{list(2, 2), api.ErrOrder},
		{list(3, 2), api.ErrOrder},
		{list(3, 0), api.ErrRange},
		{list(3, 2, 31), api.ErrOrder},
		{list(3, 31, 2), api.ErrRange},
		{list(1, 2, 3, 4, 4), api.ErrOrder},
	} {
		if e := Check(x.sizes); e != x.want {
			t.Errorf("Check(%v) = %d, want %d", x.sizes, e, x.want)
		}
	}
}

// P1.1: what all other functions return first.
func TestCheckedFirst(t *testing.T) {
	const bad = math.MinInt
	long := make([]int, 9)
	for _, x := range []struct {
		sizes []int
		want  api.Errno
	}{{nil, api.ErrEmpty}, {list(1, 2, 3, 4, 5, 6), api.ErrMany}, {list(0, 5), api.ErrRange}, {list(5, 5), api.ErrOrder}} {
		for name, e := range errorsOf(x.sizes, long, bad, bad, nil) {
			if e != x.want {
				t.Errorf("%s(%v) returns %d, want %d", name, x.sizes, e, x.want)
			}
		}
	}
}

// P1.1: the errors of a stock come before those of a number n, and these before those of the function.
func TestStockBeforeNumber(t *testing.T) {
	sizes := list(2, 5)
	for _, x := range []struct {
		stock []int
		n     int
		want  api.Errno
	}{
		{nil, -1, api.ErrShape},
		{list(1), -1, api.ErrShape},
		{list(1, 1, 1), -1, api.ErrShape},
		{list(99), 0, api.ErrShape},
		{list(-1, 1), 0, api.ErrRange},
		{list(1, 41), 0, api.ErrRange},
		{list(math.MinInt, 1), 0, api.ErrRange},
		{list(1, math.MaxInt), 0, api.ErrRange},
		{list(1, 1), -1, api.ErrRange},
		{list(1, 1), 1001, api.ErrRange},
		{list(1, 1), math.MaxInt, api.ErrRange},
		{list(1, 1), math.MinInt, api.ErrRange},
	} {
		all := errorsOf(sizes, x.stock, x.n, -1, nil)
		for _, name := range []string{"Verify", "Fill", "Ways", "Least", "Span"} {
			if all[name] != x.want {
				t.Errorf("%s with stock %v and n %d returns %d, want %d", name, x.stock, x.n, all[name], x.want)
			}
		}
		totals := x.want
		if len(x.stock) == 2 && x.stock[0] == 1 && x.stock[1] == 1 {
			totals = api.OK
		}
		if all["Totals"] != totals {
			t.Errorf("Totals with stock %v returns %d, want %d", x.stock, all["Totals"], totals)
		}
	}
	for _, n := range list(-1, 1001, math.MaxInt, math.MinInt) {
		all := errorsOf(sizes, list(1, 1), n, 0, nil)
		for _, name := range []string{"Can", "Make", "Why"} {
			if all[name] != api.ErrRange {
				t.Errorf("%s of %d returns %d", name, n, all[name])
			}
		}
	}
}

// errorsOf returns the error of each function, by its name.
func errorsOf(sizes, stock []int, n, k int, filling []int) map[string]api.Errno {
	all := map[string]api.Errno{}
	all["Check"] = Check(sizes)
	_, all["Can"] = Can(sizes, n)
	_, all["Make"] = Make(sizes, n)
	_, _, all["Why"] = Why(sizes, n)
	_, all["Remainders"] = Remainders(sizes, k)
	_, all["Gaps"] = Gaps(sizes)
	_, all["Greatest"] = Greatest(sizes)
	_, all["Even"] = Even(sizes)
	_, all["Needed"] = Needed(sizes)
	all["Verify"] = Verify(sizes, stock, n, filling)
	_, all["Fill"] = Fill(sizes, stock, n)
	_, all["Ways"] = Ways(sizes, stock, n)
	_, all["Totals"] = Totals(sizes, stock)
	_, all["Least"] = Least(sizes, stock, n)
	_, _, all["Span"] = Span(sizes, stock, n, k)
	return all
}

// P1.2, F3: Can and Make against all fillings.
func TestCanAndMake(t *testing.T) {
	for _, sizes := range someSizes() {
		for n := range 33 {
			want := best(allFillings(sizes, plenty(sizes, n), n))
			can, e := Can(sizes, n)
			if e != api.OK || can != (want != nil) {
				t.Errorf("Can(%v, %d) = %v %d", sizes, n, can, e)
			}
			lost := api.OK
			if want == nil {
				lost = api.ErrLost
			}
			if filling, e := Make(sizes, n); e != lost || !slices.Equal(filling, want) {
				t.Errorf("Make(%v, %d) = %v %d, want %v %d", sizes, n, filling, e, want, lost)
			}
		}
	}
}

// P1.2: the greatest numbers, which need more packets than a stock can have.
func TestMakeGreatNumbers(t *testing.T) {
	for _, x := range []struct {
		sizes []int
		n     int
		want  []int
	}{
		{list(1), 1000, list(1000)},
		{list(1, 2), 999, list(1, 499)},
		{list(7, 30), 1000, list(10, 31)},
		{list(1, 30), 1000, list(10, 33)},
		{list(5), 1000, list(200)},
		{list(7), 1000, nil},
		{list(29, 30), 811, nil},
		{list(29, 30), 812, list(28, 0)},
		{list(2, 4, 6, 8, 30), 999, nil},
	} {
		lost := api.OK
		if x.want == nil {
			lost = api.ErrLost
		}
		if filling, e := Make(x.sizes, x.n); e != lost || !slices.Equal(filling, x.want) {
			t.Errorf("Make(%v, %d) = %v %d, want %v", x.sizes, x.n, filling, e, x.want)
		}
		if can, e := Can(x.sizes, x.n); e != api.OK || can != (x.want != nil) {
			t.Errorf("Can(%v, %d) = %v %d", x.sizes, x.n, can, e)
		}
	}
}

// P1.3: Remainders and Why against all numbers that can be made.
func TestRemaindersAndWhy(t *testing.T) {
	for _, sizes := range someSizes() {
		made := madeUpTo(sizes, 2000)
		for k, size := range sizes {
			want := make([]int, size)
			for r := range want {
				want[r] = firstWith(made, r, size)
			}
			if got, e := Remainders(sizes, k); e != api.OK || !slices.Equal(got, want) {
				t.Errorf("Remainders(%v, %d) = %v %d, want %v", sizes, k, got, e, want)
			}
		}
		for n := range MaxTotal + 1 {
			r, least, clash := 0, 0, api.ErrClash
			if !made[n] {
				r, clash = n%sizes[0], api.OK
				least = firstWith(made, r, sizes[0])
			}
			if gotR, gotLeast, e := Why(sizes, n); gotR != r || gotLeast != least || e != clash {
				t.Fatalf("Why(%v, %d) = %d %d %d, want %d %d %d", sizes, n, gotR, gotLeast, e, r, least, clash)
			}
		}
		for _, k := range list(-1, len(sizes), math.MinInt, math.MaxInt) {
			if got, e := Remainders(sizes, k); len(got) != 0 || e != api.ErrNone {
				t.Errorf("Remainders(%v, %d) = %v %d", sizes, k, got, e)
			}
		}
	}
}

func firstWith(made []bool, remainder, size int) int {
	for n := remainder; n < len(made); n += size {
		if made[n] {
			return n
		}
	}
	return -1
}

// P1.4, F1: all gaps, the greatest one, and whether they are as many.
func TestGaps(t *testing.T) {
	for _, sizes := range someSizes() {
		made := madeUpTo(sizes, 2000)
		var want []int
		for n, is := range made {
			if !is {
				want = append(want, n)
			}
		}
		endless := len(want) > 0 && want[len(want)-1] > 1900
		gaps, e := Gaps(sizes)
		greatest, f := Greatest(sizes)
		even, g := Even(sizes)
		switch {
		case endless:
			if len(gaps) != 0 || greatest != 0 || even || e != api.ErrOver || f != api.ErrOver || g != api.ErrOver {
				t.Errorf("%v: endless, but %v %d, %d %d, %v %d", sizes, gaps, e, greatest, f, even, g)
			}
		case len(want) == 0:
			if len(gaps) != 0 || greatest != 0 || !even || e != api.OK || f != api.ErrLost || g != api.OK {
				t.Errorf("%v: no gap, but %v %d, %d %d, %v %d", sizes, gaps, e, greatest, f, even, g)
			}
		default:
			last := want[len(want)-1]
			count := 0
			for n := range last {
				if made[n] {
					count++
				}
			}
			if !slices.Equal(gaps, want) || greatest != last || even != (count == len(want)) || e != api.OK || f != api.OK || g != api.OK {
				t.Errorf("%v: %v %d, %d %d, %v %d", sizes, gaps, e, greatest, f, even, g)
			}
		}
	}
}

// P1.5: what the other sizes make is not needed.
func TestNeeded(t *testing.T) {
	for _, sizes := range someSizes() {
		var want []int
		for i, size := range sizes {
			others := slices.Delete(slices.Clone(sizes), i, i+1)
			if !madeUpTo(others, size)[size] {
				want = append(want, i)
			}
		}
		if got, e := Needed(sizes); e != api.OK || !slices.Equal(got, want) {
			t.Errorf("Needed(%v) = %v %d, want %v", sizes, got, e, want)
		}
	}
	for _, x := range []struct{ sizes, want []int }{{list(1), list(0)}, {list(30), list(0)}, {list(1, 2, 30), list(0)}, {list(2, 3, 4, 5, 6), list(0, 1)}, {list(26, 27, 28, 29, 30), list(0, 1, 2, 3, 4)}} {
		if got, e := Needed(x.sizes); e != api.OK || !slices.Equal(got, x.want) {
			t.Errorf("Needed(%v) = %v %d, want %v", x.sizes, got, e, x.want)
		}
	}
}

// P1.6: Verify, and which of its errors comes first.
func TestVerify(t *testing.T) {
	sizes, stock := list(2, 5), list(3, 2)
	for _, x := range []struct {
		n       int
		filling []int
		want    api.Errno
	}{
		{11, list(3, 1), api.OK},
		{16, list(3, 2), api.OK},
		{0, list(0, 0), api.OK},
		{11, nil, api.ErrShape},
		{0, nil, api.ErrShape},
		{11, list(3), api.ErrShape},
		{11, list(3, 1, 0), api.ErrShape},
		{11, list(9), api.ErrShape},
		{8, list(4, 0), api.ErrRange},
		{15, list(0, 3), api.ErrRange},
		{1, list(3, -1), api.ErrRange},
		{8, list(-1, 2), api.ErrRange},
		{1, list(9, 9), api.ErrRange},
		{0, list(math.MinInt, 0), api.ErrRange},
		{0, list(0, math.MaxInt), api.ErrRange},
		{12, list(3, 1), api.ErrSum},
		{10, list(3, 1), api.ErrSum},
		{1, list(0, 0), api.ErrSum},
		{-1, list(0), api.ErrRange},
		{1001, nil, api.ErrRange},
	} {
		if e := Verify(sizes, stock, x.n, x.filling); e != x.want {
			t.Errorf("Verify of %d, %v = %d, want %d", x.n, x.filling, e, x.want)
		}
	}
}

// P1.6 to P1.8, F1, F2, F3: what is asked of a stock, against all its fillings.
func TestStock(t *testing.T) {
	for _, sizes := range someSizes() {
		for _, stock := range someStocks(sizes) {
			var totals []int
			last := weight(sizes, stock)
			for n := range last + 2 {
				all := allFillings(sizes, stock, n)
				if len(all) > 0 {
					totals = append(totals, n)
				}
				checkFillings(t, sizes, stock, n, all)
			}
			if got, e := Totals(sizes, stock); e != api.OK || !slices.Equal(got, totals) {
				t.Errorf("Totals(%v, %v) = %v %d, want %v", sizes, stock, got, e, totals)
			}
			for n := range last + 2 {
				want, lost := 0, api.ErrLost
				if i, _ := slices.BinarySearch(totals, n); i < len(totals) {
					want, lost = totals[i], api.OK
				}
				if got, e := Least(sizes, stock, n); got != want || e != lost {
					t.Errorf("Least(%v, %v, %d) = %d %d, want %d %d", sizes, stock, n, got, e, want, lost)
				}
			}
		}
	}
}

func checkFillings(t *testing.T, sizes, stock []int, n int, all [][]int) {
	t.Helper()
	lost := api.OK
	if len(all) == 0 {
		lost = api.ErrLost
	}
	if got, e := Fill(sizes, stock, n); e != lost || !slices.Equal(got, best(all)) {
		t.Errorf("Fill(%v, %v, %d) = %v %d, want %v %d", sizes, stock, n, got, e, best(all), lost)
	}
	if got, e := Ways(sizes, stock, n); e != api.OK || got != len(all) {
		t.Errorf("Ways(%v, %v, %d) = %d %d, want %d", sizes, stock, n, got, e, len(all))
	}
	for k := range sizes {
		least, most := 0, 0
		for i, filling := range all {
			if i == 0 {
				least = filling[k]
			}
			least, most = min(least, filling[k]), max(most, filling[k])
		}
		if lo, hi, e := Span(sizes, stock, n, k); lo != least || hi != most || e != lost {
			t.Errorf("Span(%v, %v, %d, %d) = %d %d %d, want %d %d %d", sizes, stock, n, k, lo, hi, e, least, most, lost)
		}
	}
}

// P1.6 to P1.8: the greatest stocks and numbers.
func TestGreatStock(t *testing.T) {
	sizes, stock := list(26, 27, 28, 29, 30), list(40, 40, 40, 40, 40)
	totals, e := Totals(sizes, stock)
	if e != api.OK || len(totals) == 0 || totals[len(totals)-1] != MaxTotal {
		t.Errorf("Totals: %v %d", totals, e)
	}
	if filling, e := Fill(sizes, stock, 1000); e != api.OK || !slices.Equal(filling, list(0, 0, 0, 20, 14)) {
		t.Errorf("Fill: %v %d", filling, e)
	}
	small := list(1, 2, 3, 4, 5)
	if n, e := Ways(small, stock, 300); e != api.OK || n != countByTurns(small, 40, 300) {
		t.Errorf("Ways: %d %d", n, e)
	}
	if n, e := Least(small, stock, 601); n != 0 || e != api.ErrLost {
		t.Errorf("Least: %d %d", n, e)
	}
	if n, e := Least(list(25), list(40), 1000); n != 1000 || e != api.OK {
		t.Errorf("Least of 1000: %d %d", n, e)
	}
	if n, e := Least(list(30), list(40), 991); n != 0 || e != api.ErrLost {
		t.Errorf("Least above MaxTotal: %d %d", n, e)
	}
	if lo, hi, e := Span(list(24, 25), list(40, 40), 1000, 1); lo != 16 || hi != 40 || e != api.OK {
		t.Errorf("Span: %d %d %d", lo, hi, e)
	}
}

// countByTurns counts the fillings of n from most packets of each size, without keeping them.
func countByTurns(sizes []int, most, n int) int {
	if len(sizes) == 1 {
		if n%sizes[0] == 0 && n/sizes[0] <= most {
			return 1
		}
		return 0
	}
	count := 0
	for packets := 0; packets <= most && packets*sizes[0] <= n; packets++ {
		count += countByTurns(sizes[1:], most, n-packets*sizes[0])
	}
	return count
}

// P1.8: an index that is none counts before a number without a filling, and a number out of bounds before both.
func TestSpanErrors(t *testing.T) {
	for _, x := range []struct {
		n, k int
		want api.Errno
	}{{13, -1, api.ErrNone}, {13, 2, api.ErrNone}, {11, 2, api.ErrNone}, {11, math.MaxInt, api.ErrNone}, {11, math.MinInt, api.ErrNone}, {13, 1, api.ErrLost}, {1001, 2, api.ErrRange}, {11, 1, api.OK}} {
		if _, _, e := Span(list(2, 5), list(3, 2), x.n, x.k); e != x.want {
			t.Errorf("Span of %d, %d: %d, want %d", x.n, x.k, e, x.want)
		}
	}
}

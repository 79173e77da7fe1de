package packet

import (
	"slices"
	"testing"

	"aigrette/api"
)

// P1.9, F4: a number can be made just if the list of any size has a number for it that is not greater.
func TestRemaindersProve(t *testing.T) {
	for _, sizes := range someSizes() {
		lists := make([][]int, len(sizes))
		for k := range sizes {
			lists[k], _ = Remainders(sizes, k)
			if len(lists[k]) != sizes[k] {
				t.Fatalf("Remainders(%v, %d) has %d numbers", sizes, k, len(lists[k]))
			}
		}
		for n := range MaxTotal + 1 {
			can, _ := Can(sizes, n)
			for k, size := range sizes {
				first := lists[k][n%size]
				if can != (first != -1 && first <= n) {
					t.Fatalf("%v: %d can be made: %v, but Remainders for %d say %d", sizes, n, can, size, first)
				}
			}
		}
	}
}

// P1.10, F1: two sizes without a common divisor.
func TestSylvester(t *testing.T) {
	for a := 1; a <= MaxSize; a++ {
		for b := a + 1; b <= MaxSize; b++ {
			if divisor(a, b) > 1 {
				continue
			}
			sizes, turn := list(a, b), a*b-a-b
			gaps, _ := Gaps(sizes)
			if len(gaps) != (a-1)*(b-1)/2 {
				t.Errorf("%v has %d gaps", sizes, len(gaps))
			}
			greatest, e := Greatest(sizes)
			if turn > 0 && (greatest != turn || e != api.OK) || turn <= 0 && e != api.ErrLost {
				t.Errorf("Greatest(%v) = %d %d", sizes, greatest, e)
			}
			for n := 0; n <= turn; n++ {
				one, _ := Can(sizes, n)
				other, _ := Can(sizes, turn-n)
				if one == other {
					t.Errorf("%v: %d and %d", sizes, n, turn-n)
				}
			}
		}
	}
}

func divisor(a, b int) int {
	for b != 0 {
		a, b = b, a%b
	}
	return a
}

// P1.11, F2: the lists of remainders tell how many gaps there are, and the greatest one.
func TestGapsCounted(t *testing.T) {
	for _, sizes := range someSizes() {
		gaps, e := Gaps(sizes)
		if e != api.OK {
			continue
		}
		for k, s := range sizes {
			first, _ := Remainders(sizes, k)
			rest := sum(first) - s*(s-1)/2
			if rest%s != 0 || rest/s != len(gaps) {
				t.Errorf("%v: %d gaps, but remainders %v", sizes, len(gaps), first)
			}
			if greatest, e := Greatest(sizes); e == api.OK && slices.Max(first)-s != greatest {
				t.Errorf("%v: greatest gap %d, but remainders %v", sizes, greatest, first)
			}
		}
	}
}

// P1.12: a common divisor leaves infinitely many gaps; otherwise those who can be made are never more.
func TestDivisors(t *testing.T) {
	for _, sizes := range someSizes() {
		common := 0
		for _, size := range sizes {
			common = divisor(common, size)
		}
		gaps, e := Gaps(sizes)
		if (e == api.ErrOver) != (common > 1) {
			t.Errorf("Gaps(%v): %d, common divisor %d", sizes, e, common)
		}
		if len(gaps) == 0 {
			continue
		}
		greatest := gaps[len(gaps)-1]
		made := greatest + 1 - len(gaps)
		if made > len(gaps) {
			t.Errorf("%v: %d can be made below %d, but %d are gaps", sizes, made, greatest, len(gaps))
		}
		if even, _ := Even(sizes); even != (made == len(gaps)) {
			t.Errorf("Even(%v) = %v", sizes, even)
		}
	}
}

// P1.13, F5: the needed sizes alone make the same numbers, and have the same gaps.
func TestNeededAlone(t *testing.T) {
	for _, sizes := range someSizes() {
		indices, _ := Needed(sizes)
		var alone []int
		for _, i := range indices {
			alone = append(alone, sizes[i])
		}
		if e := Check(alone); e != api.OK {
			t.Fatalf("Needed(%v): %v", sizes, indices)
		}
		for n := range MaxTotal + 1 {
			one, _ := Can(sizes, n)
			if other, _ := Can(alone, n); one != other {
				t.Fatalf("%v and %v: %d", sizes, alone, n)
			}
		}
		gaps, e := Gaps(sizes)
		if same, f := Gaps(alone); !slices.Equal(gaps, same) || e != f {
			t.Errorf("Gaps of %v and %v", sizes, alone)
		}
		for i := range indices {
			fewer := slices.Delete(slices.Clone(alone), i, i+1)
			if can, _ := Can(fewer, alone[i]); can {
				t.Errorf("%v is not needed in %v", alone[i], alone)
			}
		}
	}
}

// P1.14, F7: one more size, or more in the stock, makes nothing worse.
func TestMore(t *testing.T) {
	for _, sizes := range someSizes() {
		if len(sizes) == MaxKinds {
			continue
		}
		for _, size := range list(1, 4, 9, 30) {
			place, found := slices.BinarySearch(sizes, size)
			if found {
				continue
			}
			more := slices.Insert(slices.Clone(sizes), place, size)
			for n := 0; n < 120; n += 3 {
				notWorse(t, [2][]int{sizes, more}, [2][]int{}, n)
			}
			for _, stock := range someStocks(sizes) {
				moreStock := slices.Insert(slices.Clone(stock), place, 2)
				for n := 0; n <= weight(sizes, stock); n += 3 {
					notWorse(t, [2][]int{sizes, more}, [2][]int{stock, moreStock}, n)
				}
			}
		}
		for _, stock := range someStocks(sizes) {
			for k := range stock {
				moreStock := slices.Clone(stock)
				moreStock[k]++
				for n := 0; n <= weight(sizes, stock); n += 2 {
					notWorse(t, [2][]int{sizes, sizes}, [2][]int{stock, moreStock}, n)
				}
			}
		}
	}
}

func notWorse(t *testing.T, sizes, stock [2][]int, n int) {
	t.Helper()
	var filling [2][]int
	var e [2]api.Errno
	for i := range sizes {
		if stock[0] == nil {
			filling[i], e[i] = Make(sizes[i], n)
		} else {
			filling[i], e[i] = Fill(sizes[i], stock[i], n)
		}
	}
	if e[0] == api.OK && (e[1] != api.OK || sum(filling[1]) > sum(filling[0])) {
		t.Errorf("%d of %v from %v: %v, of %v from %v: %v", n, sizes[0], stock[0], filling[0], sizes[1], stock[1], filling[1])
	}
}

// P1.15, F2: each choice of packets is a way of one number, and what is left is one of another number.
func TestAllWays(t *testing.T) {
	for i, sizes := range someSizes() {
		if i%5 != 0 { // all numbers up to MaxTotal are asked for, which takes its time
			continue
		}
		for _, stock := range someStocks(sizes) {
			last := weight(sizes, stock)
			choices, counted := 1, 0
			for _, packets := range stock {
				choices *= packets + 1
			}
			for n := range MaxTotal + 1 {
				ways, _ := Ways(sizes, stock, n)
				counted += ways
				if n > last {
					continue
				}
				_, one := Fill(sizes, stock, n)
				if _, other := Fill(sizes, stock, last-n); one != other {
					t.Errorf("%v from %v: %d and what is left", sizes, stock, n)
				}
				if left, _ := Ways(sizes, stock, last-n); left != ways {
					t.Errorf("%v from %v: %d ways of %d, %d of what is left", sizes, stock, ways, n, left)
				}
			}
			if counted != choices {
				t.Errorf("%v from %v: %d ways, %d choices", sizes, stock, counted, choices)
			}
		}
	}
}

// P1.16: a stock that has enough fills as if there were no end of packets.
func TestEnough(t *testing.T) {
	tried := 0
	for _, sizes := range someSizes() {
		for n := 0; n <= MaxTotal; n += 7 {
			stock := plenty(sizes, n)
			if slices.Max(stock) > MaxStock {
				continue
			}
			tried++
			made, e := Make(sizes, n)
			if filled, f := Fill(sizes, stock, n); !slices.Equal(made, filled) || e != f {
				t.Errorf("%d of %v: %v %d, from %v: %v %d", n, sizes, made, e, stock, filled, f)
			}
		}
	}
	if tried < 1000 {
		t.Errorf("only %d tried", tried)
	}
}

// F5: a size without packets has no influence but on places; F3: nothing is better than what Fill returns.
func TestSizeWithoutPackets(t *testing.T) {
	sizes, stock := list(3, 5, 8), list(4, 2, 3)
	for place, size := range list(2, 4, 7, 9) {
		more := slices.Insert(slices.Clone(sizes), place, size)
		moreStock := slices.Insert(slices.Clone(stock), place, 0)
		one, _ := Totals(sizes, stock)
		if other, _ := Totals(more, moreStock); !slices.Equal(one, other) {
			t.Errorf("Totals with %d", size)
		}
		for _, n := range one {
			filling, _ := Fill(sizes, stock, n)
			if got, _ := Fill(more, moreStock, n); !slices.Equal(got, slices.Insert(filling, place, 0)) {
				t.Errorf("Fill of %d with %d", n, size)
			}
			for k := range sizes {
				lo, hi, _ := Span(sizes, stock, n, k)
				moved := k
				if k >= place {
					moved++
				}
				if low, high, _ := Span(more, moreStock, n, moved); low != lo || high != hi {
					t.Errorf("Span of %d, %d with %d", n, k, size)
				}
			}
		}
	}
}

// F6: each choice of packets is verified for the number it fills, and for no other one; so is what is left.
func TestThereAndBack(t *testing.T) {
	sizes, stock := list(2, 3, 7), list(4, 3, 2)
	last := weight(sizes, stock)
	for n := range last + 1 {
		for _, filling := range allFillings(sizes, stock, n) {
			left := slices.Clone(stock)
			for i := range left {
				left[i] -= filling[i]
			}
			if e := Verify(sizes, stock, last-n, left); e != api.OK {
				t.Errorf("what is left of %v: %d", filling, e)
			}
			for m := range last + 2 {
				if e := Verify(sizes, stock, m, filling); (e == api.OK) != (m == n) {
					t.Errorf("Verify of %d, %v: %d", m, filling, e)
				}
			}
		}
		if filling, e := Fill(sizes, stock, n); e == api.OK && Verify(sizes, stock, n, filling) != api.OK {
			t.Errorf("Fill of %d: %v", n, filling)
		}
	}
}

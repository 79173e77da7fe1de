package bunch_test

// P9.8 to P9.14, and with them F1 to F7 for this layer: of all divisions that there are.

import (
	"slices"
	"testing"

	"aigrette/api"
	"aigrette/bunch"
)

// counted returns what a call counts.
func counted(t *testing.T, name string) func(n int, e api.Errno) int {
	return func(n int, e api.Errno) int {
		t.Helper()
		if e != api.OK {
			t.Fatalf("%s: %d", name, e)
		}
		return n
	}
}

// checked returns what a call returns, which must be a division.
func checked(t *testing.T, name string) func(l []int, e api.Errno) []int {
	return func(l []int, e api.Errno) []int {
		t.Helper()
		if e != api.OK || bunch.Check(l) != api.OK {
			t.Fatalf("%s: %v %d", name, l, e)
		}
		return l
	}
}

// P9.8, F2, F6.
func TestDoubleAndHalf(t *testing.T) {
	for feathers := range 31 {
		odd, different := 0, 0
		for _, one := range divisionsOf(feathers) {
			if doubled, e := bunch.Double(one); e == api.OK {
				odd++
				l, e := bunch.Half(doubled)
				same(t, "P9.8: Half of Double", l, e, one, api.OK)
			}
			if halved, e := bunch.Half(one); e == api.OK {
				different++
				l, e := bunch.Double(halved)
				same(t, "P9.8: Double of Half", l, e, one, api.OK)
			}
		}
		if n := counted(t, "Different")(bunch.Different(feathers)); odd != n || different != n {
			t.Errorf("P9.8: %d feathers: %d odd, %d different, Different: %d", feathers, odd, different, n)
		}
	}
}

// P9.8: the double has as many feathers, and its numbers are different; its half is odd.
func TestSameFeathers(t *testing.T) {
	for _, one := range upTo(30) {
		if isOdd(one) {
			l := checked(t, "Double")(bunch.Double(one))
			if sum(l) != sum(one) || !isDifferent(l) {
				t.Errorf("P9.8: Double of %v: %v", one, l)
			}
		}
		if isDifferent(one) {
			l := checked(t, "Half")(bunch.Half(one))
			if sum(l) != sum(one) || !isOdd(l) {
				t.Errorf("P9.8: Half of %v: %v", one, l)
			}
		}
	}
}

// pentagonal returns n (3 n - 1) / 2 and n (3 n + 1) / 2.
func pentagonal(n int) []int {
	return list(n*(3*n-1)/2, n*(3*n+1)/2)
}

// sign returns 1 for an even number, and -1 for an odd one.
func sign(n int) int {
	return 1 - 2*(n%2)
}

// signedOf returns Signed as P9.9 tells it.
func signedOf(feathers int) int {
	for n := range 10 {
		if slices.Contains(pentagonal(n), feathers) {
			return sign(n)
		}
	}
	return 0
}

// P9.9, F2, F4: those that are lost account for Signed, as all others come in pairs.
func TestPartnerOfPartner(t *testing.T) {
	for feathers := range 31 {
		even, odd, lost := 0, 0, 0
		for _, one := range divisionsOf(feathers) {
			other, e := bunch.Partner(one)
			switch {
			case e == api.ErrProof:
				continue
			case len(one)%2 == 0:
				even++
			default:
				odd++
			}
			if e == api.ErrLost {
				lost += sign(len(one))
				continue
			}
			if more := len(other) - len(one); more != 1 && more != -1 || sum(other) != feathers || !isDifferent(other) {
				t.Errorf("P9.9: Partner of %v: %v", one, other)
			}
			l, e := bunch.Partner(other)
			same(t, "P9.9: Partner of Partner", l, e, one, api.OK)
		}
		n, e := bunch.Signed(feathers)
		sameNumber(t, "P9.9: Signed", n, e, signedOf(feathers), api.OK)
		if even-odd != n || lost != n {
			t.Errorf("P9.9: %d feathers: %d even, %d odd, %d lost, Signed %d", feathers, even, odd, lost, n)
		}
	}
}

// P9.10, F1.
func TestEuler(t *testing.T) {
	for feathers := 1; feathers <= 30; feathers++ {
		want := 0
		for n := 1; n <= feathers; n++ {
			for _, less := range pentagonal(n) {
				if less <= feathers {
					want -= sign(n) * counted(t, "Count")(bunch.Count(feathers-less))
				}
			}
		}
		n, e := bunch.Count(feathers)
		sameNumber(t, "P9.10: Count", n, e, want, api.OK)
	}
}

// P9.11, F5, F6.
func TestTurnedTwice(t *testing.T) {
	for feathers := range 31 {
		numbers := make([]int, 31)
		for _, one := range divisionsOf(feathers) {
			other := checked(t, "Turn")(bunch.Turn(one))
			l, e := bunch.Turn(other)
			same(t, "P9.11: Turn of Turn", l, e, one, api.OK)
			first := 0
			if len(other) > 0 {
				first = other[0]
			}
			if first != len(one) || sum(other) != feathers {
				t.Errorf("P9.11: Turn of %v: %v", one, other)
			}
			numbers[len(one)]++
		}
		for most := range 31 {
			n, e := bunch.Counts(feathers, most)
			sameNumber(t, "P9.11: Counts", n, e, sum(numbers[:most+1]), api.OK)
		}
	}
}

// P9.12, F6.
func TestSquareAndJoin(t *testing.T) {
	for _, one := range upTo(30) {
		k, right, below, e := bunch.Square(one)
		if e != api.OK || k*k+sum(right)+sum(below) != sum(one) {
			t.Fatalf("Square of %v: %d %v %v %d", one, k, right, below, e)
		}
		l, e := bunch.Join(k, right, below)
		same(t, "P9.12: Join of Square", l, e, one, api.OK)
		under := checked(t, "Turn of what is right")(bunch.Turn(right))
		beside := checked(t, "Turn of what is below")(bunch.Turn(below))
		sameSquare(t, checked(t, "Turn")(bunch.Turn(one)), cut{k, beside, under}, api.OK)
	}
}

// P9.12, F6: Join returns a division with this square, whatever is right of it and below it.
func TestJoinAndSquare(t *testing.T) {
	joined := 0
	for k := range 6 {
		for _, right := range upTo(10) {
			for _, below := range upTo(10) {
				l, e := bunch.Join(k, right, below)
				if e == api.OK {
					joined++
					sameSquare(t, l, cut{k, right, below}, api.OK)
				}
			}
		}
	}
	if joined < 1000 {
		t.Errorf("only %d joined", joined)
	}
}

// P9.13, F6.
func TestHooksAndFold(t *testing.T) {
	for feathers := range 31 {
		evenHanded, hooked := 0, 0
		for _, one := range divisionsOf(feathers) {
			if hooks, e := bunch.Hooks(one); e == api.OK {
				evenHanded++
				if !isOdd(hooks) || !isDifferent(hooks) || sum(hooks) != feathers || bunch.Check(hooks) != api.OK {
					t.Errorf("P9.13: Hooks of %v: %v", one, hooks)
				}
				l, e := bunch.Fold(hooks)
				same(t, "P9.13: Fold of Hooks", l, e, one, api.OK)
			}
			if folded, e := bunch.Fold(one); e == api.OK {
				hooked++
				l, e := bunch.Hooks(folded)
				same(t, "P9.13: Hooks of Fold", l, e, one, api.OK)
				l, e = bunch.Turn(folded)
				same(t, "P9.13: Turn of Fold", l, e, folded, api.OK)
			}
		}
		if evenHanded != hooked {
			t.Errorf("P9.13: %d feathers: %d are even-handed, %d are hooks", feathers, evenHanded, hooked)
		}
	}
}

// P9.14, F1, F6.
func TestNumberAndNth(t *testing.T) {
	for feathers := range 31 {
		var before []int
		for i := range counted(t, "Count")(bunch.Count(feathers)) {
			one := checked(t, "Nth")(bunch.Nth(feathers, i))
			n, e := bunch.Number(one)
			sameNumber(t, "P9.14: Number of Nth", n, e, i, api.OK)
			if sum(one) != feathers || i > 0 && slices.Compare(before, one) >= 0 {
				t.Errorf("P9.14: Nth of %d, %d: %v, before it %v", feathers, i, one, before)
			}
			before = one
		}
		for _, one := range divisionsOf(feathers) {
			l, e := bunch.Nth(feathers, counted(t, "Number")(bunch.Number(one)))
			same(t, "P9.14: Nth of Number", l, e, one, api.OK)
		}
	}
}

// F7: with more feathers, or greater numbers, there are no fewer divisions.
func TestMoreFeathers(t *testing.T) {
	for feathers := range 30 {
		if fewer, more := counted(t, "Count")(bunch.Count(feathers)), counted(t, "Count")(bunch.Count(feathers+1)); fewer > more {
			t.Errorf("F7: Count of %d: %d, of one more: %d", feathers, fewer, more)
		}
		for most := range 30 {
			if fewer, more := counted(t, "Counts")(bunch.Counts(feathers, most)), counted(t, "Counts")(bunch.Counts(feathers, most+1)); fewer > more {
				t.Errorf("F7: Counts of %d, %d: %d, of a greater one: %d", feathers, most, fewer, more)
			}
		}
	}
}

package fan_test

// P4.8 to P4.11, and with them F1 to F7 for this layer.

import (
	"slices"
	"testing"

	"aigrette/api"
	"aigrette/fan"
)

func count(t *testing.T, f fan.Fan) int {
	t.Helper()
	n, e := fan.Count(f)
	if e != api.OK {
		t.Fatalf("Count of %v: %d", f, e)
	}
	return n
}

func turned(t *testing.T, f fan.Fan) fan.Fan {
	t.Helper()
	g, e := fan.Turned(f)
	if e != api.OK {
		t.Fatalf("Turned of %v: %d", f, e)
	}
	return g
}

func crossing(t *testing.T, f fan.Fan, kind int) []int {
	t.Helper()
	l, e := fan.Crossing(f, kind)
	if e != api.OK {
		t.Fatalf("Crossing of %v: %d: %d", f, kind, e)
	}
	return l
}

// kindsIn returns the kinds that are in a fan.
func kindsIn(f fan.Fan) []int {
	var kinds []int
	for kind := 1; kind <= f.Kinds; kind++ {
		if slices.Contains(f.Plumes, kind) {
			kinds = append(kinds, kind)
		}
	}
	return kinds
}

// fullFans returns all full fans of so many kinds.
func fullFans(kinds int, isWide bool) []fan.Fan {
	var fans []fan.Fan
	for _, plumes := range allFull(kinds, isWide) {
		fans = append(fans, fan.Fan{Kinds: kinds, Wide: isWide, Plumes: plumes})
	}
	return fans
}

// everyFan calls do with all fans of up to four kinds that are begun, and with parts of greater full ones.
func everyFan(do func(f fan.Fan)) {
	for _, isWide := range []bool{true, false} {
		for kinds := 1; kinds <= 4; kinds++ {
			for _, f := range begun(kinds, isWide) {
				do(f)
			}
		}
		for kinds := 5; kinds <= fan.MaxKinds; kinds++ {
			do(empty(kinds, isWide))
			full := allFull(kinds, isWide)
			for i := 0; i < len(full); i += 1 + len(full)/9 {
				for set := i % 5; set < 1<<kinds; set += 1 + set%11 {
					do(fan.Fan{Kinds: kinds, Wide: isWide, Plumes: leftOf(full[i], set)})
				}
			}
		}
	}
}

// P4.8: a sum proves that there is no full fan, and there is one where it does not.
func TestSkolemAndLangford(t *testing.T) {
	for kinds := 1; kinds <= fan.MaxKinds; kinds++ {
		for _, isWide := range []bool{true, false} {
			want := kinds%4 == 0 || isWide && kinds%4 == 3 || !isWide && kinds%4 == 1
			is, e := fan.Can(kinds, isWide)
			sameTruth(t, "P4.8: Can", is, e, want, api.OK)
			half, e := fan.Half(kinds, isWide)
			if (e == api.OK) != want || (e == api.ErrLost) == want {
				t.Errorf("P4.8: Half of %d, %v: %d", kinds, isWide, e)
			}
			f, e := fan.Complete(empty(kinds, isWide))
			if (e == api.OK) != want || (count(t, empty(kinds, isWide)) > 0) != want {
				t.Errorf("P4.8: Complete of %d, %v: %v %d", kinds, isWide, f, e)
			}
			for _, f := range fullFans(kinds, isWide) {
				sum := 0
				for kind := 1; kind <= kinds; kind++ {
					sum += slices.Index(f.Plumes, kind)
				}
				if sum != half {
					t.Errorf("P4.8: Half of %v: %d, want %d", f, half, sum)
				}
			}
		}
	}
	for _, x := range []struct {
		kinds  int
		isWide bool
		want   int
	}{{3, true, 2}, {4, true, 2}, {7, true, 52}, {1, false, 1}, {4, false, 6}, {5, false, 10}} {
		if n := count(t, empty(x.kinds, x.isWide)); n != x.want {
			t.Errorf("P4.8: %d full fans of %d, %v, want %d", n, x.kinds, x.isWide, x.want)
		}
	}
}

// P4.9: put in and taken out, and the completions of a fan without a kind.
func TestPutAndTaken(t *testing.T) {
	everyFan(func(f fan.Fan) {
		for kind := 1; kind <= f.Kinds; kind++ {
			free, e := fan.Free(f, kind)
			if slices.Contains(f.Plumes, kind) {
				checkTaken(t, f, kind)
				continue
			}
			sum := 0
			for _, place := range free {
				more, put := fan.Put(f, kind, place)
				again, taken := fan.Take(more, kind)
				if put != api.OK {
					t.Errorf("P4.9: Put into %v: %d at %d: %d", f, kind, place, put)
				}
				sameFan(t, "P4.9: put in and taken out", again, taken, f, api.OK)
				sum += count(t, more)
			}
			if n := count(t, f); e != api.OK || n != sum {
				t.Errorf("P4.9: %v has %d completions, with %d in it %d: %d", f, n, kind, sum, e)
			}
		}
	})
}

// checkTaken checks that what is taken out can be put in again, and that no completion is lost.
func checkTaken(t *testing.T, f fan.Fan, kind int) {
	t.Helper()
	less, e := fan.Take(f, kind)
	if e != api.OK || count(t, less) < count(t, f) {
		t.Errorf("P4.9: %v without %d: %v %d", f, kind, less, e)
	}
	again, e := fan.Put(less, kind, slices.Index(f.Plumes, kind))
	sameFan(t, "P4.9: taken out and put in", again, e, f, api.OK)
	if free, e := fan.Free(less, kind); e != api.OK || !slices.Contains(free, slices.Index(f.Plumes, kind)) {
		t.Errorf("P4.9: Free of %v: %d: %v %d", less, kind, free, e)
	}
}

// P4.10: who crosses whom.
func TestCrossing(t *testing.T) {
	everyFan(func(f fan.Fan) {
		full := !slices.Contains(f.Plumes, 0)
		for _, kind := range kindsIn(f) {
			crossed := crossing(t, f, kind)
			between, e := fan.Between(f, kind)
			if e != api.OK || full && len(crossed)%2 != len(between)%2 {
				t.Errorf("P4.10: Crossing of %v: %d: %v, Between: %v %d", f, kind, crossed, between, e)
			}
			for _, other := range crossed {
				if !slices.Contains(crossing(t, f, other), kind) {
					t.Errorf("P4.10: %v: %d crosses %d, but not the other way round", f, kind, other)
				}
			}
		}
	})
}

// P4.11: turned fans.
func TestTurnedFans(t *testing.T) {
	everyFan(func(f fan.Fan) {
		g := turned(t, f)
		sameFan(t, "P4.11: turned twice", turned(t, g), api.OK, f, api.OK)
		if fan.Check(g) != api.OK || count(t, f) != count(t, g) {
			t.Errorf("P4.11: %v turned: %v", f, g)
		}
		for _, kind := range kindsIn(f) {
			same(t, "P4.11: Crossing turned", crossing(t, g, kind), api.OK, crossing(t, f, kind), api.OK)
		}
	})
}

// P4.11: Partner of Partner.
func TestPartnerOfPartner(t *testing.T) {
	everyFan(func(f fan.Fan) {
		for place, kind := range f.Plumes {
			if kind == 0 {
				continue
			}
			other, e := fan.Partner(f, place)
			if e != api.OK || other == place || f.Plumes[other] != kind {
				t.Errorf("P4.11: Partner of %v: %d: %d %d", f, place, other, e)
			}
			back, e := fan.Partner(f, other)
			sameNumber(t, "P4.11: Partner of Partner", back, e, place, api.OK)
		}
	})
}

// P4.6, F3: what Complete returns is a completion, and it is its own one.
func TestCompletionIsFull(t *testing.T) {
	everyFan(func(f fan.Fan) {
		c, e := fan.Complete(f)
		if (e == api.OK) != (count(t, f) > 0) {
			t.Errorf("Complete of %v: %d, but %d completions", f, e, count(t, f))
		}
		if e != api.OK {
			return
		}
		is, e := fan.Full(c)
		sameTruth(t, "Full of a completion", is, e, true, api.OK)
		if c.Kinds != f.Kinds || c.Wide != f.Wide || !agrees(c.Plumes, f.Plumes) || count(t, c) != 1 {
			t.Errorf("Complete of %v: %v", f, c)
		}
		again, e := fan.Complete(c)
		sameFan(t, "Complete of a completion", again, e, c, api.OK)
	})
}

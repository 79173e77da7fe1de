package till_test

// P5.1 to P5.8, and the table of examples.

import (
	"math"
	"slices"
	"strings"
	"testing"

	"aigrette/api"
	"aigrette/till"
)

func list(l ...int) []int { return l }

func same(t *testing.T, name string, got []int, e api.Errno, want []int, wanted api.Errno) {
	t.Helper()
	if !slices.Equal(got, want) || e != wanted {
		t.Errorf("%s: %v %d, want %v %d", name, got, e, want, wanted)
	}
}

func sameNumber(t *testing.T, name string, got int, e api.Errno, want int, wanted api.Errno) {
	t.Helper()
	if got != want || e != wanted {
		t.Errorf("%s: %d %d, want %d %d", name, got, e, want, wanted)
	}
}

func sameOrder(t *testing.T, name string, got string, e api.Errno, want string, wanted api.Errno) {
	t.Helper()
	if got != want || e != wanted {
		t.Errorf("%s: %q %d, want %q %d", name, got, e, want, wanted)
	}
}

func samePairs(t *testing.T, name string, got [][2]int, e api.Errno, want [][2]int, wanted api.Errno) {
	t.Helper()
	if !slices.Equal(got, want) || e != wanted {
		t.Errorf("%s: %v %d, want %v %d", name, got, e, want, wanted)
	}
}

func TestExamplesOfCoins(t *testing.T) {
	l, e := till.Coins("ccncnn", 0)
	same(t, "Coins of ccncnn: 0", l, e, list(1, 2, 1, 2, 1, 0), api.OK)
	l, e = till.Coins("cnn", 0)
	same(t, "Coins of cnn: 0", l, e, nil, api.ErrProof)
	n, e := till.Lacks("cnn", 0)
	sameNumber(t, "Lacks of cnn: 0", n, e, 2, api.OK)
	n, e = till.Lacks("ccn", 0)
	sameNumber(t, "Lacks of ccn: 0", n, e, 0, api.ErrLost)
	for order, want := range map[string]int{"cnn": 1, "nnc": 2, "cc": 0} {
		n, e = till.Needs(order)
		sameNumber(t, "Needs of "+order, n, e, want, api.OK)
	}
}

func TestExamplesOfCount(t *testing.T) {
	for _, x := range []struct{ coins, notes, begin, want int }{{3, 3, 0, 5}, {2, 3, 1, 5}, {2, 4, 1, 0}, {0, 0, 0, 1}} {
		n, e := till.Count(x.coins, x.notes, x.begin)
		sameNumber(t, "Count", n, e, x.want, api.OK)
	}
	s, e := till.First(3, 3, 0)
	sameOrder(t, "First of 3, 3, 0", s, e, "cccnnn", api.OK)
	s, e = till.First(1, 2, 1)
	sameOrder(t, "First of 1, 2, 1", s, e, "cnn", api.OK)
	s, e = till.First(1, 2, 0)
	sameOrder(t, "First of 1, 2, 0", s, e, "", api.ErrLost)
	for number, want := range map[int]string{0: "cccnnn", 1: "ccncnn", 4: "cncncn"} {
		s, e = till.At(3, 3, 0, number)
		sameOrder(t, "At of 3, 3, 0", s, e, want, api.OK)
	}
	s, e = till.At(3, 3, 0, 5)
	sameOrder(t, "At of 3, 3, 0: 5", s, e, "", api.ErrRange)
	n, e := till.Number("ccnncn", 0)
	sameNumber(t, "Number of ccnncn: 0", n, e, 2, api.OK)
	n, e = till.Number("cnncn", 0)
	sameNumber(t, "Number of cnncn: 0", n, e, 0, api.ErrProof)
}

func TestExamplesOfTurns(t *testing.T) {
	l, e := till.Turns("cnccn", 1)
	same(t, "Turns of cnccn: 1", l, e, list(2), api.OK)
	l, e = till.Turns("cnccn", 0)
	same(t, "Turns of cnccn: 0", l, e, list(0, 2, 3), api.OK)
	l, e = till.Turns("cn", 1)
	same(t, "Turns of cn: 1", l, e, nil, api.OK)
	pairs, e := till.Pairs("ccncnn")
	samePairs(t, "Pairs of ccncnn", pairs, e, [][2]int{{1, 2}, {3, 4}, {0, 5}}, api.OK)
}

func TestExamplesOfExchange(t *testing.T) {
	s, e := till.Exchange("cnnc", 0)
	sameOrder(t, "Exchange of cnnc: 0", s, e, "nccc", api.OK)
	s, e = till.Exchange("cn", 0)
	sameOrder(t, "Exchange of cn: 0", s, e, "", api.ErrLost)
	l, e := till.Served("nccn", 0)
	same(t, "Served of nccn: 0", l, e, list(1, 0, 2, 3), api.OK)
	l, e = till.Served("nnc", 1)
	same(t, "Served of nnc: 1", l, e, list(0, 2, 1), api.OK)
	l, e = till.Served("nn", 0)
	same(t, "Served of nn: 0", l, e, nil, api.ErrLost)
}

// wrong returns orders with an error, and the error of each.
func wrong() ([]string, []api.Errno) {
	long := []string{strings.Repeat("c", 17), strings.Repeat("n", 17), strings.Repeat("cn", 1000), strings.Repeat("x", 17), strings.Repeat("é", 9), strings.Repeat("cn", 8) + "\n"}
	odd := []string{"x", " ", "C", "N", "cC", "nN", "cn ", " cn", "cn\n", "c,n", "cb", "cd", "nm", "no", "c\x00n", "\xff", "é", "ｃ", strings.Repeat("é", 8), strings.Repeat("c", 15) + "x", "x" + strings.Repeat("c", 15)}
	var errors []api.Errno
	for range long {
		errors = append(errors, api.ErrMany)
	}
	for range odd {
		errors = append(errors, api.ErrForm)
	}
	return append(long, odd...), errors
}

// P5.1.
func TestCheck(t *testing.T) {
	for _, order := range []string{"", "c", "n", "cn", "nc", "nnnccc", strings.Repeat("c", 16), strings.Repeat("n", 16), strings.Repeat("nc", 8)} {
		if e := till.Check(order); e != api.OK {
			t.Errorf("Check of %q: %d", order, e)
		}
	}
	orders, errors := wrong()
	for i, order := range orders {
		if e := till.Check(order); e != errors[i] {
			t.Errorf("Check of %q: %d, want %d", order, e, errors[i])
		}
	}
}

// P5.1: all other functions of an order return the error of Check at first, whatever the numbers are.
func TestCheckAtFirst(t *testing.T) {
	orders, errors := wrong()
	for i, order := range orders {
		for _, n := range list(0, 1, 20, 21, -1, math.MinInt, math.MaxInt) {
			for _, call := range append(callsOfOrder(order), callsWithBegin(order, n)...) {
				results := call.results()
				if e := results[len(results)-1]; e != errors[i] {
					t.Errorf("%s of %q, %d: %v, want %d", call.name, order, n, results, errors[i])
				}
			}
		}
	}
}

// P5.1, P5.5: then the number of coins must be from 0 to MaxCoins, whether the order is good or not.
func TestBeginNext(t *testing.T) {
	for _, order := range []string{"", "c", "n", "cnn", "ccncnn", strings.Repeat("n", 16)} {
		for _, n := range list(-1, -2, 21, 22, 100, math.MinInt, math.MaxInt) {
			for _, call := range callsWithBegin(order, n) {
				results := call.results()
				if e := results[len(results)-1]; e != api.ErrRange {
					t.Errorf("%s of %q, %d: %v", call.name, order, n, results)
				}
			}
		}
	}
}

// P5.1, P5.2.
func TestCoins(t *testing.T) {
	notes := strings.Repeat("n", 16)
	for _, x := range []struct {
		order        string
		begin        int
		coins        []int
		lacks, needs int
	}{
		{"", 0, nil, -1, 0},
		{"", 20, nil, -1, 0},
		{"c", 0, list(1), -1, 0},
		{"n", 0, nil, 0, 1},
		{"n", 1, list(0), -1, 1},
		{"nc", 0, nil, 0, 1},
		{"cn", 0, list(1, 0), -1, 0},
		{"cnn", 1, list(2, 1, 0), -1, 1},
		{"cnnn", 1, nil, 3, 2},
		{"nnc", 1, nil, 1, 2},
		{"nnc", 2, list(1, 0, 1), -1, 2},
		{"ncnnc", 1, nil, 3, 2},
		{"nccnnn", 1, nil, 5, 2},
		{"nnccc", 0, nil, 0, 2},
		{"cnnccnn", 1, list(2, 1, 0, 1, 2, 1, 0), -1, 1},
		{strings.Repeat("c", 16), 20, list(21, 22, 23, 24, 25, 26, 27, 28, 29, 30, 31, 32, 33, 34, 35, 36), -1, 0},
		{notes, 16, list(15, 14, 13, 12, 11, 10, 9, 8, 7, 6, 5, 4, 3, 2, 1, 0), -1, 16},
		{notes, 15, nil, 15, 16},
		{notes, 0, nil, 0, 16},
	} {
		proof, lost, place := api.OK, api.ErrLost, 0
		if x.lacks >= 0 {
			proof, lost, place = api.ErrProof, api.OK, x.lacks
		}
		l, e := till.Coins(x.order, x.begin)
		same(t, "Coins of "+x.order, l, e, x.coins, proof)
		n, e := till.Lacks(x.order, x.begin)
		sameNumber(t, "Lacks of "+x.order, n, e, place, lost)
		n, e = till.Needs(x.order)
		sameNumber(t, "Needs of "+x.order, n, e, x.needs, api.OK)
	}
}

// P5.3.
func TestCount(t *testing.T) {
	for _, x := range []struct {
		coins, notes, begin, want int
		first                     string
	}{
		{0, 0, 20, 1, ""},
		{1, 0, 0, 1, "c"},
		{0, 1, 0, 0, ""},
		{0, 1, 1, 1, "n"},
		{1, 1, 0, 1, "cn"},
		{1, 1, 1, 2, "cn"},
		{1, 2, 0, 0, ""},
		{2, 2, 0, 2, "ccnn"},
		{2, 2, 1, 5, "ccnn"},
		{2, 2, 2, 6, "ccnn"},
		{2, 2, 20, 6, "ccnn"},
		{4, 3, 1, 28, "ccccnnn"},
		{3, 5, 1, 0, ""},
		{3, 4, 1, 14, "cccnnnn"},
		{8, 8, 0, 1430, "ccccccccnnnnnnnn"},
		{8, 8, 7, 12869, "ccccccccnnnnnnnn"},
		{8, 8, 8, 12870, "ccccccccnnnnnnnn"},
		{16, 0, 0, 1, "cccccccccccccccc"},
		{0, 16, 15, 0, ""},
		{0, 16, 16, 1, "nnnnnnnnnnnnnnnn"},
	} {
		lost := api.OK
		if x.want == 0 {
			lost = api.ErrLost
		}
		n, e := till.Count(x.coins, x.notes, x.begin)
		sameNumber(t, "Count", n, e, x.want, api.OK)
		s, e := till.First(x.coins, x.notes, x.begin)
		sameOrder(t, "First", s, e, x.first, lost)
	}
}

// P5.3, P5.4: numbers of customers and coins that are too small or too great.
func TestCountOutOfRange(t *testing.T) {
	for _, x := range [][3]int{{-1, 0, 0}, {0, -1, 0}, {-1, 5, 20}, {5, -1, 20}, {17, 0, 0}, {0, 17, 20}, {9, 8, 0}, {8, 9, 20}, {16, 1, 0}, {1, 16, 0}, {17, -1, 0}, {-1, 17, 0}, {1, 1, -1}, {1, 1, 21}, {0, 0, -1}, {0, 0, 21}, {0, 5, 21}, {0, 0, math.MinInt}, {0, 0, math.MaxInt}, {math.MaxInt, 1, 0}, {1, math.MaxInt, 0}, {math.MaxInt, math.MaxInt, 0}, {1 << 62, 1 << 62, 0}, {math.MinInt, math.MinInt, 0}, {math.MinInt, 16, 0}, {16, math.MinInt, 0}, {math.MaxInt, math.MinInt, 5}} {
		n, e := till.Count(x[0], x[1], x[2])
		sameNumber(t, "Count", n, e, 0, api.ErrRange)
		s, e := till.First(x[0], x[1], x[2])
		sameOrder(t, "First", s, e, "", api.ErrRange)
		for _, number := range list(0, 1, -1, math.MaxInt) {
			s, e = till.At(x[0], x[1], x[2], number)
			sameOrder(t, "At", s, e, "", api.ErrRange)
		}
	}
}

// P5.4.
func TestAt(t *testing.T) {
	for _, x := range []struct {
		coins, notes, begin int
		orders              []string
	}{
		{0, 0, 0, []string{""}},
		{0, 0, 20, []string{""}},
		{0, 1, 0, nil},
		{2, 0, 0, []string{"cc"}},
		{0, 2, 2, []string{"nn"}},
		{1, 2, 1, []string{"cnn", "ncn"}},
		{1, 2, 2, []string{"cnn", "ncn", "nnc"}},
		{2, 2, 0, []string{"ccnn", "cncn"}},
		{2, 2, 1, []string{"ccnn", "cncn", "cnnc", "nccn", "ncnc"}},
		{3, 1, 0, []string{"cccn", "ccnc", "cncc"}},
		{3, 3, 0, []string{"cccnnn", "ccncnn", "ccnncn", "cnccnn", "cncncn"}},
	} {
		for number, want := range x.orders {
			s, e := till.At(x.coins, x.notes, x.begin, number)
			sameOrder(t, "At", s, e, want, api.OK)
			n, e := till.Number(want, x.begin)
			sameNumber(t, "Number of "+want, n, e, number, api.OK)
		}
		for _, number := range list(-1, len(x.orders), len(x.orders)+1, math.MinInt, math.MaxInt) {
			s, e := till.At(x.coins, x.notes, x.begin, number)
			sameOrder(t, "At", s, e, "", api.ErrRange)
		}
	}
	s, e := till.At(8, 8, 0, 1429)
	sameOrder(t, "At of 8, 8, 0: 1429", s, e, strings.Repeat("cn", 8), api.OK)
	s, e = till.At(8, 8, 8, 12869)
	sameOrder(t, "At of 8, 8, 8: 12869", s, e, "nnnnnnnncccccccc", api.OK)
}

// P5.4: orders that are not good have no number.
func TestNumberOfBadOrders(t *testing.T) {
	for order, begin := range map[string]int{"n": 0, "nc": 0, "cnn": 0, "nnc": 1, "cnncn": 0, "nnnnc": 3} {
		n, e := till.Number(order, begin)
		sameNumber(t, "Number of "+order, n, e, 0, api.ErrProof)
		if _, e := till.Number(order, begin+1); e != api.OK {
			t.Errorf("Number of %s: %d: %d", order, begin+1, e)
		}
	}
}

// P5.5.
func TestTurns(t *testing.T) {
	for _, x := range []struct {
		order string
		keep  int
		want  []int
	}{
		{"", 0, nil},
		{"", 20, nil},
		{"c", 0, list(0)},
		{"c", 1, list(0)},
		{"c", 2, nil},
		{"n", 0, nil},
		{"nn", 0, nil},
		{"cn", 0, list(0)},
		{"nc", 0, list(1)},
		{"ncnc", 0, list(1, 3)},
		{"ncc", 1, list(1)},
		{"ncc", 0, list(1, 2)},
		{"ccc", 1, list(0, 1, 2)},
		{"ccc", 2, nil},
		{"cnccnc", 1, list(2, 5)},
		{"ccncccn", 1, list(0, 3, 4)},
		{"ccncccn", 0, list(0, 1, 3, 4, 5)},
		{strings.Repeat("c", 16), 1, list(0, 1, 2, 3, 4, 5, 6, 7, 8, 9, 10, 11, 12, 13, 14, 15)},
		{strings.Repeat("c", 16), 20, nil},
	} {
		l, e := till.Turns(x.order, x.keep)
		same(t, "Turns of "+x.order, l, e, x.want, api.OK)
	}
}

// P5.6.
func TestPairs(t *testing.T) {
	for _, x := range []struct {
		order string
		want  [][2]int
		e     api.Errno
	}{
		{"", nil, api.OK},
		{"c", nil, api.OK},
		{"cccc", nil, api.OK},
		{"cn", [][2]int{{0, 1}}, api.OK},
		{"ccn", [][2]int{{1, 2}}, api.OK},
		{"cnc", [][2]int{{0, 1}}, api.OK},
		{"ccnn", [][2]int{{1, 2}, {0, 3}}, api.OK},
		{"cncn", [][2]int{{0, 1}, {2, 3}}, api.OK},
		{"ccnncn", [][2]int{{1, 2}, {0, 3}, {4, 5}}, api.OK},
		{"cccncnn", [][2]int{{2, 3}, {4, 5}, {1, 6}}, api.OK},
		{"n", nil, api.ErrProof},
		{"cnn", nil, api.ErrProof},
		{"cnnc", nil, api.ErrProof},
		{"nccc", nil, api.ErrProof},
	} {
		pairs, e := till.Pairs(x.order)
		samePairs(t, "Pairs of "+x.order, pairs, e, x.want, x.e)
	}
}

// P5.7.
func TestExchange(t *testing.T) {
	for _, x := range []struct {
		order string
		begin int
		want  string
		e     api.Errno
	}{
		{"", 0, "", api.ErrLost},
		{"c", 0, "", api.ErrLost},
		{"n", 0, "c", api.OK},
		{"n", 1, "", api.ErrLost},
		{"nnnc", 0, "cnnc", api.OK},
		{"nnnc", 2, "cccc", api.OK},
		{"nnnc", 3, "", api.ErrLost},
		{"ncnn", 0, "ccnn", api.OK},
		{"ncnn", 1, "cncc", api.OK},
		{"cncnncn", 0, "ncncccn", api.OK},
		{"ccnnnnc", 1, "nnccccc", api.OK},
		{strings.Repeat("n", 16), 15, strings.Repeat("c", 16), api.OK},
		{strings.Repeat("n", 16), 16, "", api.ErrLost},
	} {
		s, e := till.Exchange(x.order, x.begin)
		sameOrder(t, "Exchange of "+x.order, s, e, x.want, x.e)
	}
}

// P5.8.
func TestServed(t *testing.T) {
	for _, x := range []struct {
		order string
		begin int
		want  []int
		e     api.Errno
	}{
		{"", 0, nil, api.OK},
		{"c", 0, list(0), api.OK},
		{"n", 0, nil, api.ErrLost},
		{"n", 1, list(0), api.OK},
		{"nc", 0, list(1, 0), api.OK},
		{"nc", 1, list(0, 1), api.OK},
		{"nnccc", 0, list(2, 0, 3, 1, 4), api.OK},
		{"nnccn", 0, nil, api.ErrLost},
		{"nncnc", 1, list(0, 2, 1, 4, 3), api.OK},
		{"ncncnc", 0, list(1, 0, 3, 2, 5, 4), api.OK},
		{"nncncc", 0, list(2, 0, 4, 1, 5, 3), api.OK},
		{"cnnccn", 0, list(0, 1, 3, 2, 4, 5), api.OK},
		{"ncn", 0, nil, api.ErrLost},
		{"ccc", 0, list(0, 1, 2), api.OK},
		{strings.Repeat("n", 16), 16, list(0, 1, 2, 3, 4, 5, 6, 7, 8, 9, 10, 11, 12, 13, 14, 15), api.OK},
		{strings.Repeat("n", 16), 15, nil, api.ErrLost},
	} {
		l, e := till.Served(x.order, x.begin)
		same(t, "Served of "+x.order, l, e, x.want, x.e)
	}
}

package curl_test

// P7.1 to P7.8, and the table of examples.

import (
	"math"
	"strings"
	"testing"

	"aigrette/api"
	"aigrette/curl"
)

// rule returns the rule with these words.
func rule(words ...string) curl.Rule { return curl.Rule{Words: words} }

// exampleL returns the rule L of the examples.
func exampleL() curl.Rule { return rule("abcbacbcabcba", "bcacbacabcacb", "cabacbabcabac") }

func same(t *testing.T, name string, got string, e api.Errno, want string, wanted api.Errno) {
	t.Helper()
	if got != want || e != wanted {
		t.Errorf("%s: %q %d, want %q %d", name, got, e, want, wanted)
	}
}

func sameNumber(t *testing.T, name string, got int, e api.Errno, want int, wanted api.Errno) {
	t.Helper()
	if got != want || e != wanted {
		t.Errorf("%s: %d %d, want %d %d", name, got, e, want, wanted)
	}
}

func sameError(t *testing.T, name string, got, want api.Errno) {
	t.Helper()
	if got != want {
		t.Errorf("%s: %d, want %d", name, got, want)
	}
}

// sameRepeat compares Repeat and Clear; wanted is ErrLost for a clear word.
func sameRepeat(t *testing.T, word string, place, size int, wanted api.Errno) {
	t.Helper()
	p, s, e := curl.Repeat(word)
	if p != place || s != size || e != wanted {
		t.Errorf("Repeat of %q: %d %d %d, want %d %d %d", word, p, s, e, place, size, wanted)
	}
	clear, e := curl.Clear(word)
	if clear != (wanted == api.ErrLost) || (e != api.OK) != (wanted != api.OK && wanted != api.ErrLost) {
		t.Errorf("Clear of %q: %v %d, Repeat: %d", word, clear, e, wanted)
	}
}

func TestExamplesOfWords(t *testing.T) {
	sameRepeat(t, "abab", 0, 2, api.OK)
	sameRepeat(t, "abcbc", 1, 2, api.OK)
	sameRepeat(t, "aabb", 0, 1, api.OK)
	sameRepeat(t, "abcacb", 0, 0, api.ErrLost)
	for _, x := range []struct {
		word    string
		letters int
		want    string
	}{{"aba", 2, ""}, {"aba", 3, "c"}, {"abacaba", 3, ""}, {"abcb", 3, "a"}} {
		s, e := curl.Next(x.word, x.letters)
		same(t, "Next of "+x.word, s, e, x.want, api.OK)
	}
	s, e := curl.Longer("ab", 2, 4)
	same(t, "Longer of ab, 2, 4", s, e, "", api.ErrLost)
	s, e = curl.Longer("ab", 3, 8)
	same(t, "Longer of ab, 3, 8", s, e, "abacabca", api.OK)
	s, e = curl.Longer("abacaba", 3, 8)
	same(t, "Longer of abacaba, 3, 8", s, e, "", api.ErrLost)
	for _, x := range [][3]int{{1, 2, 0}, {2, 3, 2}, {2, 4, 0}, {3, 4, 18}, {4, 3, 36}} {
		n, e := curl.Count(x[0], x[1])
		sameNumber(t, "Count", n, e, x[2], api.OK)
	}
}

func TestExamplesOfReplace(t *testing.T) {
	r := rule("ab", "ba")
	s, e := curl.Replace(r, "aba")
	same(t, "Replace of ab, ba: aba", s, e, "abbaab", api.OK)
	s, e = curl.Replace(r, "abc")
	same(t, "Replace of ab, ba: abc", s, e, "", api.ErrNone)
	s, e = curl.Back(r, "abba")
	same(t, "Back of ab, ba: abba", s, e, "ab", api.OK)
	s, e = curl.Back(r, "aba")
	same(t, "Back of ab, ba: aba", s, e, "", api.ErrShape)
	s, e = curl.Back(r, "aabb")
	same(t, "Back of ab, ba: aabb", s, e, "", api.ErrLost)
}

func TestExamplesOfKeeps(t *testing.T) {
	for _, x := range []struct {
		r     curl.Rule
		keeps bool
	}{{exampleL(), true}, {rule("ab", "cd"), true}, {rule("ab", "ba"), false}, {rule("ab", "cb", "cd"), false}} {
		if keeps, e := curl.Keeps(x.r); keeps != x.keeps || e != api.OK {
			t.Errorf("Keeps of %v: %v %d", x.r, keeps, e)
		}
	}
	for _, x := range []struct {
		r     curl.Rule
		proof string
		e     api.Errno
	}{{rule("ab", "ba"), "ab", api.OK}, {rule("aa"), "a", api.OK}, {rule("a", "a"), "ab", api.OK}, {rule("ab", "cb", "cd"), "abc", api.OK}, {exampleL(), "", api.ErrClash}} {
		s, e := curl.Against(x.r)
		same(t, "Against", s, e, x.proof, x.e)
	}
	r := rule("ab", "cb", "cd")
	sameError(t, "Proves of ab, cb, cd: abc", curl.Proves(r, "abc"), api.OK)
	sameError(t, "Proves of ab, cb, cd: aba", curl.Proves(r, "aba"), api.ErrProof)
	sameError(t, "Proves of ab, cb, cd: aab", curl.Proves(r, "aab"), api.ErrProof)
	sameError(t, "Proves of ab, cb, cd: abd", curl.Proves(r, "abd"), api.ErrNone)
}

func TestExamplesOfGrow(t *testing.T) {
	for _, x := range []struct {
		r      curl.Rule
		length int
		want   string
		e      api.Errno
	}{{rule("ab", "ba"), 8, "abbabaab", api.OK}, {rule("ba", "ab"), 8, "", api.ErrLost}, {rule("ab", "ca"), 8, "", api.ErrNone}, {exampleL(), 15, "abcbacbcabcbabc", api.OK}} {
		s, e := curl.Grow(x.r, x.length)
		same(t, "Grow", s, e, x.want, x.e)
	}
}

// wrong returns strings that are no words, and the error of each.
func wrong() ([]string, []api.Errno) {
	long := []string{strings.Repeat("a", 601), strings.Repeat("abcd", 151), strings.Repeat("e", 601), strings.Repeat("é", 301), strings.Repeat("d", 600) + "\n"}
	odd := []string{"e", "A", "D", "`", "0", " ", "abe", "ea", "aEa", "ab ", " ab", "ab\n", "a,b", "a\x00b", "\x80", "\xff", "é", "a\u0300", "ａ", "а", "\ufffd", strings.Repeat("é", 300), strings.Repeat("a", 599) + "x", "x" + strings.Repeat("a", 599)}
	var errors []api.Errno
	for range long {
		errors = append(errors, api.ErrMany)
	}
	for range odd {
		errors = append(errors, api.ErrForm)
	}
	return append(long, odd...), errors
}

// P7.1.
func TestCheck(t *testing.T) {
	for _, word := range []string{"", "a", "b", "c", "d", "dcba", "aaaa", strings.Repeat("d", 600), strings.Repeat("abcd", 150)} {
		if e := curl.Check(word); e != api.OK {
			t.Errorf("Check of %q: %d", word, e)
		}
	}
	words, errors := wrong()
	for i, word := range words {
		if e := curl.Check(word); e != errors[i] {
			t.Errorf("Check of %q: %d, want %d", word, e, errors[i])
		}
	}
}

// P7.1: all other functions of a word without a rule return the error of Check at first, whatever the
// numbers are.
func TestCheckAtFirst(t *testing.T) {
	words, errors := wrong()
	for i, word := range words {
		sameRepeat(t, word, 0, 0, errors[i])
		for _, letters := range []int{1, 4, 0, 5, math.MinInt, math.MaxInt} {
			s, e := curl.Next(word, letters)
			same(t, "Next", s, e, "", errors[i])
			for _, length := range []int{0, 40, 41, -1, math.MinInt, math.MaxInt} {
				s, e := curl.Longer(word, letters, length)
				same(t, "Longer", s, e, "", errors[i])
			}
		}
	}
}

// P7.1: the repeat that ends first, and the smallest one of several with this end.
func TestRepeat(t *testing.T) {
	for _, x := range []struct {
		word        string
		place, size int
	}{
		{"aa", 0, 1},
		{"dd", 0, 1},
		{"abb", 1, 1},
		{"abcabc", 0, 3},
		{"abcdabcd", 0, 4},
		{"dabcabcabc", 1, 3},
		// The longer repeat begins first, but ends later.
		{"abacabaabacaba", 6, 1},
		{"abbabb", 1, 1},
		{"dcbaabab", 3, 1},
		{"abacababacab", 4, 2},
		{"bcbabcbabc", 0, 4},
		{strings.Repeat("a", 600), 0, 1},
		{strings.Repeat("ab", 300), 0, 2},
	} {
		sameRepeat(t, x.word, x.place, x.size, api.OK)
	}
	for _, word := range []string{"", "a", "d", "ab", "aba", "abacaba", "abcbabcd", "abacabadabacaba", "dacbdabcad"} {
		sameRepeat(t, word, 0, 0, api.ErrLost)
	}
}

// P7.1: the longest repeats of the longest words.
func TestRepeatOfLongWords(t *testing.T) {
	long, e := curl.Grow(exampleL(), 600)
	if e != api.OK {
		t.Fatalf("Grow of L, 600: %d", e)
	}
	sameRepeat(t, long, 0, 0, api.ErrLost)
	sameRepeat(t, long[:599]+"d", 0, 0, api.ErrLost)
	sameRepeat(t, long[:599]+long[598:599], 598, 1, api.OK)
	sameRepeat(t, long[:299]+"d"+long[:299]+"d", 0, 300, api.OK)
	sameRepeat(t, "d"+long[:299]+"d"+long[:299], 0, 300, api.OK)
	sameRepeat(t, long[:299]+"d"+long[:299]+long[298:299], 598, 1, api.OK)
	sameRepeat(t, "d"+long[:298]+"d"+long[:300], 0, 299, api.OK)
}

// P7.2: the errors of Next and Longer, which are the same ones but for the length.
func TestErrorsOfLonger(t *testing.T) {
	long, _ := curl.Grow(exampleL(), 600)
	for _, x := range []struct {
		word    string
		letters int
		e       api.Errno
	}{
		{"ab", 0, api.ErrRange},
		{"ab", 5, api.ErrRange},
		{"ab", -1, api.ErrRange},
		{"ab", math.MinInt, api.ErrRange},
		{"ab", math.MaxInt, api.ErrRange},
		{"aa", 5, api.ErrRange},
		{"ab", 1, api.ErrNone},
		{"c", 2, api.ErrNone},
		{"abd", 3, api.ErrNone},
		{"dab", 3, api.ErrNone},
		{"aad", 3, api.ErrNone},
		{"bb", 1, api.ErrNone},
		{long, 2, api.ErrNone},
		{"aa", 1, api.ErrProof},
		{"aab", 3, api.ErrProof},
		{"abb", 4, api.ErrProof},
		{"dcbacba", 4, api.ErrProof},
		{long[:599] + long[598:599], 3, api.ErrProof},
		{strings.Repeat("ab", 300), 2, api.ErrProof},
	} {
		s, e := curl.Next(x.word, x.letters)
		same(t, "Next of "+x.word, s, e, "", x.e)
		for _, length := range []int{len(x.word), 40, 41, 0, -1, math.MaxInt} {
			s, e := curl.Longer(x.word, x.letters, length)
			same(t, "Longer of "+x.word, s, e, "", x.e)
		}
	}
}

// P7.2.
func TestNext(t *testing.T) {
	long, _ := curl.Grow(exampleL(), 600)
	for _, x := range []struct {
		word    string
		letters int
		want    string
	}{
		{"", 1, "a"},
		{"", 4, "abcd"},
		{"a", 1, ""},
		{"a", 2, "b"},
		{"a", 4, "bcd"},
		{"d", 4, "abc"},
		{"ab", 4, "acd"},
		{"abacaba", 4, "d"},
		{"abacabadabacaba", 4, ""},
		{"abcdabc", 4, "ab"},
		{long[:300], 4, long[300:301] + "d"},
		{"d" + long[:298], 4, "cd"},
		// Here the c would end a repeat of size 300.
		{"d" + long[:299] + "d" + long[:298], 4, "d"},
		{long[:599], 3, long[599:]},
		{long, 3, "c"},
		{long, 4, "cd"},
	} {
		s, e := curl.Next(x.word, x.letters)
		same(t, "Next of "+x.word, s, e, x.want, api.OK)
	}
}

// P7.2: the bounds of the length.
func TestLengthOfLonger(t *testing.T) {
	for _, x := range []struct {
		word   string
		length int
		want   string
		e      api.Errno
	}{
		{"", -1, "", api.ErrRange},
		{"", math.MinInt, "", api.ErrRange},
		{"", math.MaxInt, "", api.ErrRange},
		{"", 41, "", api.ErrRange},
		{"", 0, "", api.OK},
		{"", 1, "a", api.OK},
		{"abc", 2, "", api.ErrRange},
		{"abc", 0, "", api.ErrRange},
		{"abc", 3, "abc", api.OK},
		{"abc", 4, "abca", api.OK},
		{"abc", 41, "", api.ErrRange},
		{"abacaba", 6, "", api.ErrRange},
		{"abacaba", 7, "abacaba", api.OK},
		{"abacaba", 8, "", api.ErrLost},
		{"abacaba", 40, "", api.ErrLost},
	} {
		s, e := curl.Longer(x.word, 3, x.length)
		same(t, "Longer of "+x.word, s, e, x.want, x.e)
	}
	long, _ := curl.Grow(exampleL(), 600)
	s, e := curl.Longer(long[:40], 3, 40)
	same(t, "Longer of 40 letters", s, e, long[:40], api.OK)
	for _, length := range []int{0, 39, 40, 41, 599, 600, 601} {
		for _, word := range []string{long[:41], long} {
			s, e := curl.Longer(word, 3, length)
			same(t, "Longer of too many letters", s, e, "", api.ErrRange)
		}
	}
}

// P7.2.
func TestLonger(t *testing.T) {
	for _, x := range []struct {
		word            string
		letters, length int
		want            string
		e               api.Errno
	}{
		{"", 1, 2, "", api.ErrLost},
		{"a", 1, 40, "", api.ErrLost},
		{"", 2, 3, "aba", api.OK},
		{"b", 2, 3, "bab", api.OK},
		{"ba", 2, 4, "", api.ErrLost},
		{"", 3, 16, "abacabcacbabcaba", api.OK},
		{"", 4, 16, "abacabadabacabca", api.OK},
		{"abacabadabacaba", 4, 16, "", api.ErrLost},
		{"d", 4, 8, "dabacaba", api.OK},
		{"d", 4, 40, "dabacabadabacabcacbabcabacabcacbabdabaca", api.OK},
		{"", 3, 40, "abacabcacbabcabacabcacbacabacbabcabacabc", api.OK},
	} {
		s, e := curl.Longer(x.word, x.letters, x.length)
		same(t, "Longer of "+x.word, s, e, x.want, x.e)
	}
}

// P7.3.
func TestCount(t *testing.T) {
	for letters, row := range [][]int{
		1: {1, 1, 0, 0, 0, 0, 0, 0, 0, 0, 0},
		2: {1, 2, 2, 2, 0, 0, 0, 0, 0, 0, 0},
		3: {1, 3, 6, 12, 18, 30, 42, 60, 78, 108, 144},
		4: {1, 4, 12, 36, 96, 264, 696, 1848, 4848, 12768, 33480},
	} {
		for length, want := range row {
			n, e := curl.Count(letters, length)
			sameNumber(t, "Count", n, e, want, api.OK)
		}
	}
	for _, x := range [][2]int{{0, 3}, {5, 3}, {-1, 0}, {math.MinInt, 0}, {math.MaxInt, 0}, {3, -1}, {3, 11}, {1, 11}, {4, math.MinInt}, {4, math.MaxInt}, {0, 11}} {
		n, e := curl.Count(x[0], x[1])
		sameNumber(t, "Count", n, e, 0, api.ErrRange)
	}
}

// wrongRules returns rules with an error, and the error of each.
func wrongRules() ([]curl.Rule, []api.Errno) {
	long := strings.Repeat("a", 14)
	var rules []curl.Rule
	var errors []api.Errno
	add := func(e api.Errno, some ...curl.Rule) {
		for _, r := range some {
			rules, errors = append(rules, r), append(errors, e)
		}
	}
	add(api.ErrEmpty, curl.Rule{}, curl.Rule{Words: []string{}})
	add(api.ErrMany, rule("a", "b", "c", "d", "a"), rule("a", "b", "c", "d", ""), rule("e", "", "ab", long, "x"), curl.Rule{Words: make([]string, 600)})
	add(api.ErrShape, rule(""), rule("", ""), rule(long), rule(long, long), rule(strings.Repeat("e", 14)), rule(strings.Repeat("a", 601)))
	add(api.ErrShape, rule("a", ""), rule("", "e"), rule("ab", "c"), rule("a", "bc"), rule("ab", "cde"), rule("a", "b", "c", "dd"), rule(strings.Repeat("a", 13), strings.Repeat("a", 12)))
	add(api.ErrShape, rule("ab", "e"), rule("ab", "a", "ef"), rule("ab", "cd", "a", "xy"), rule("a", "é"))
	add(api.ErrForm, rule("e"), rule("A"), rule("é"), rule("\xff"), rule("ab", "a "), rule("a", "b", "c", "e"), rule("ab", "é"), rule("x\x00", "ab"), rule("ab", "cd", "a\n", "ab"))
	add(api.ErrForm, rule("ae", ""), rule("ae", "c"), rule("ab", "ef", "a"), rule(strings.Repeat("a", 12)+"e", long))
	return rules, errors
}

// P7.4.
func TestCheckRule(t *testing.T) {
	for _, r := range []curl.Rule{rule("a"), rule("d"), rule("a", "a"), rule("d", "c", "b", "a"), rule("abcd", "aaaa", "dddd"), rule("ab", "ab", "ab", "ab"), rule(strings.Repeat("a", 13)), exampleL()} {
		sameError(t, "CheckRule of "+strings.Join(r.Words, ", "), curl.CheckRule(r), api.OK)
	}
	rules, errors := wrongRules()
	for i, r := range rules {
		sameError(t, "CheckRule of "+strings.Join(r.Words, ", "), curl.CheckRule(r), errors[i])
	}
}

// P7.4: all other functions of a rule return at first its error, and then that of the word.
func TestCheckRuleAtFirst(t *testing.T) {
	words, wordErrors := wrong()
	rules, ruleErrors := wrongRules()
	for i, r := range rules {
		keeps, e := curl.Keeps(r)
		if keeps || e != ruleErrors[i] {
			t.Errorf("Keeps of %q: %v %d, want %d", r, keeps, e, ruleErrors[i])
		}
		s, e := curl.Against(r)
		same(t, "Against", s, e, "", ruleErrors[i])
		for _, length := range []int{0, 600, 601, -1, math.MinInt, math.MaxInt} {
			s, e := curl.Grow(r, length)
			same(t, "Grow", s, e, "", ruleErrors[i])
		}
		for _, word := range append([]string{"", "a", "ab", "abcd", strings.Repeat("d", 600)}, words...) {
			withWord(t, r, word, ruleErrors[i])
		}
	}
	for _, r := range []curl.Rule{exampleL(), rule("a"), rule("ab", "ba"), rule("abc", "abd", "acb", "adb")} {
		for i, word := range words {
			withWord(t, r, word, wordErrors[i])
		}
	}
}

// withWord checks that all functions of a rule and a word return this error.
func withWord(t *testing.T, r curl.Rule, word string, wanted api.Errno) {
	t.Helper()
	s, e := curl.Replace(r, word)
	same(t, "Replace of "+word, s, e, "", wanted)
	s, e = curl.Back(r, word)
	same(t, "Back of "+word, s, e, "", wanted)
	sameError(t, "Proves of "+word, curl.Proves(r, word), wanted)
}

// P7.5.
func TestReplace(t *testing.T) {
	for _, x := range []struct {
		r          curl.Rule
		word, want string
		e          api.Errno
	}{
		{rule("ab", "ba"), "", "", api.OK},
		{rule("ab", "ba"), "b", "ba", api.OK},
		{rule("abc"), "aaa", "abcabcabc", api.OK},
		{rule("d", "c", "b", "a"), "abcd", "dcba", api.OK},
		{rule("dd", "cc"), "ba", "ccdd", api.OK},
		{exampleL(), "ca", "cabacbabcabacabcbacbcabcba", api.OK},
		{rule("ab", "ba"), "c", "", api.ErrNone},
		{rule("ab", "ba"), "abababd", "", api.ErrNone},
		{rule("ab"), "b", "", api.ErrNone},
		{exampleL(), "d", "", api.ErrNone},
		{exampleL(), strings.Repeat("b", 46), strings.Repeat("bcacbacabcacb", 46), api.OK},
		{exampleL(), strings.Repeat("b", 47), "", api.ErrOver},
		{exampleL(), strings.Repeat("d", 47), "", api.ErrNone},
		{exampleL(), strings.Repeat("a", 599) + "d", "", api.ErrNone},
		{exampleL(), strings.Repeat("a", 600), "", api.ErrOver},
		{rule("ab"), strings.Repeat("a", 300), strings.Repeat("ab", 300), api.OK},
		{rule("ab"), strings.Repeat("a", 301), "", api.ErrOver},
		{rule("b", "a"), strings.Repeat("ab", 300), strings.Repeat("ba", 300), api.OK},
		{rule("b", "a"), strings.Repeat("ab", 299) + "ac", "", api.ErrNone},
	} {
		s, e := curl.Replace(x.r, x.word)
		same(t, "Replace of "+x.word, s, e, x.want, x.e)
	}
}

// keeping returns rules that keep words clear.
func keeping() []curl.Rule {
	return []curl.Rule{
		exampleL(),
		rule("abacabcbabc", "acbabcbacbc", "acbacabacbc"),
		rule("abacabcacbac", "abacbabcacbc", "abacbcacbabc"),
		rule("cdadcacdcadcb", "cdcacbdbacdbd", "cabadcbcdbdab", "adbacbcdadcba"),
		rule("abaca", "badcd", "bcacd", "bdacd"),
		rule("abc", "abd", "acb", "adb"),
		rule("abaca", "badcd", "bcacd"),
		rule("ab", "ac", "ad"),
		rule("babd", "acad"),
		rule("ab", "cd"),
		rule("abacabadabaca"),
		rule("a"),
		rule("d", "b"),
		rule("c", "a", "b"),
		rule("a", "b", "c", "d"),
		rule("d", "c", "b", "a"),
	}
}

// against returns rules that do not keep words clear, and the smallest of the shortest proofs.
func against() ([]curl.Rule, []string) {
	rules := []curl.Rule{rule("aa"), rule("abcdd"), rule("aba", "abb"), rule("abb", "aba"), rule("ab", "cd", "aa"), rule("ab", "cd", "ad", "cc")}
	proofs := []string{"a", "a", "b", "a", "c", "d"}
	rules = append(rules, rule("a", "a"), rule("ab", "ab"), rule("ab", "ca"), rule("a", "b", "a"), rule("a", "b", "c", "a"), rule("a", "b", "b", "c"), rule("a", "b", "c", "c"), rule("bc", "cd", "ab"))
	proofs = append(proofs, "ab", "ab", "ba", "ac", "ad", "bc", "cd", "ab")
	rules = append(rules, rule("cbad", "bcdb"), rule("badb", "abcd"), rule("ad", "cd", "cb"), rule("bda", "dbc", "dba"), rule("dacbd", "bcadc", "abdca"), rule("cb", "ab", "cd"), rule("ca", "cd", "ba"))
	proofs = append(proofs, "aba", "bab", "abc", "acb", "bcb", "bac", "cab")
	rules = append(rules, rule("db", "da", "ca", "cb"), rule("adbd", "abcb", "adbc", "acdc"), rule("dcdba", "bdcda", "dbcda", "cbcda"))
	proofs = append(proofs, "adc", "dca", "dca")
	return rules, proofs
}

// P7.6.
func TestKeeps(t *testing.T) {
	for _, r := range keeping() {
		keeps, e := curl.Keeps(r)
		if !keeps || e != api.OK {
			t.Errorf("Keeps of %q: %v %d", r, keeps, e)
		}
		s, e := curl.Against(r)
		same(t, "Against", s, e, "", api.ErrClash)
	}
	rules, proofs := against()
	for i, r := range rules {
		keeps, e := curl.Keeps(r)
		if keeps || e != api.OK {
			t.Errorf("Keeps of %q: %v %d", r, keeps, e)
		}
		s, e := curl.Against(r)
		same(t, "Against of "+strings.Join(r.Words, ", "), s, e, proofs[i], api.OK)
	}
}

// P7.6.
func TestProves(t *testing.T) {
	r := rule("ab", "cb", "cd")
	for _, x := range []struct {
		r    curl.Rule
		word string
		e    api.Errno
	}{
		{r, "", api.ErrProof},
		{r, "a", api.ErrProof},
		{r, "ac", api.ErrProof},
		{r, "babca", api.OK},
		{r, "abcabc", api.ErrProof},
		{r, "aabd", api.ErrNone},
		{r, strings.Repeat("abcd", 100), api.ErrNone},
		{r, strings.Repeat("abc", 101), api.ErrOver},
		{r, strings.Repeat("abc", 100), api.ErrProof},
		{rule("ab", "ba"), "ba", api.OK},
		{rule("ab", "ba"), "bab", api.OK},
		{rule("ab", "ba"), "abab", api.ErrProof},
		{rule("a", "a"), "ab", api.OK},
		{rule("a", "a"), "a", api.ErrProof},
		{rule("aa"), "a", api.OK},
		{rule("aa"), "aa", api.ErrProof},
		{rule("aa"), "b", api.ErrNone},
		{exampleL(), "abcacbabcb", api.ErrProof},
		{exampleL(), strings.Repeat("a", 47), api.ErrOver},
		{exampleL(), strings.Repeat("d", 47), api.ErrNone},
	} {
		sameError(t, "Proves of "+strings.Join(x.r.Words, ", ")+": "+x.word, curl.Proves(x.r, x.word), x.e)
	}
}

// P7.6: proofs that are as long as possible.
func TestProvesOfLongWords(t *testing.T) {
	long, _ := curl.Grow(exampleL(), 600)
	sameError(t, "Proves of 600 letters", curl.Proves(rule("a", "b", "b"), long), api.OK)
	sameError(t, "Proves of 600 letters", curl.Proves(rule("a", "b", "c"), long), api.ErrProof)
	sameError(t, "Proves of 300 letters", curl.Proves(rule("ab", "cb", "cd"), long[:300]), api.OK)
	sameError(t, "Proves of 301 letters", curl.Proves(rule("ab", "cb", "cd"), long[:301]), api.ErrOver)
}

// P7.7.
func TestGrow(t *testing.T) {
	thueMorse := "abbabaabbaababba"
	for _, x := range []struct {
		r      curl.Rule
		length int
		want   string
		e      api.Errno
	}{
		{rule("ab", "ba"), 0, "", api.OK},
		{rule("ab", "ba"), 1, "a", api.OK},
		{rule("ab", "ba"), 2, "ab", api.OK},
		{rule("ab", "ba"), 3, "abb", api.OK},
		{rule("ab", "ba"), 16, thueMorse, api.OK},
		{rule("abba", "baab"), 15, thueMorse[:15], api.OK},
		{rule("aa"), 600, strings.Repeat("a", 600), api.OK},
		{rule("ac", "ab", "bb"), 9, "acbbababa", api.OK},
		{rule("ad", "bb", "cc", "bc"), 9, "adbcbbccb", api.OK},
		{rule(strings.Repeat("a", 13)), 14, strings.Repeat("a", 14), api.OK},
		{rule("ab", "ba"), -1, "", api.ErrRange},
		{rule("ab", "ba"), 601, "", api.ErrRange},
		{rule("ab", "ba"), math.MinInt, "", api.ErrRange},
		{rule("ab", "ba"), math.MaxInt, "", api.ErrRange},
		{rule("ba", "cd"), 601, "", api.ErrRange},
		{rule("a"), -1, "", api.ErrRange},
		{rule("a"), 0, "", api.ErrLost},
		{rule("a"), 1, "", api.ErrLost},
		{rule("b"), 5, "", api.ErrLost},
		{rule("a", "d"), 5, "", api.ErrLost},
		{rule("ba", "ab"), 0, "", api.ErrLost},
		{rule("ca", "ab"), 8, "", api.ErrLost},
		{rule("bd", "ab"), 8, "", api.ErrLost},
		{rule("ab"), 8, "", api.ErrNone},
		{rule("ab"), 0, "", api.ErrNone},
		{rule("ab", "ad", "cc"), 8, "", api.ErrNone},
		// The c, whose word has a d, would never come up.
		{rule("ab", "ba", "dd"), 8, "", api.ErrNone},
		{rule("ab", "ba", "dd"), 1, "", api.ErrNone},
		{rule("ab", "ba", "dd", "cc"), 8, thueMorse[:8], api.OK},
	} {
		s, e := curl.Grow(x.r, x.length)
		same(t, "Grow of "+strings.Join(x.r.Words, ", "), s, e, x.want, x.e)
	}
}

// P7.8.
func TestBack(t *testing.T) {
	long, _ := curl.Grow(exampleL(), 598)
	for _, x := range []struct {
		r          curl.Rule
		word, want string
		e          api.Errno
	}{
		{rule("ab", "ba"), "", "", api.OK},
		{rule("ab", "ba"), "abab", "aa", api.OK},
		{rule("ab", "ba"), "a", "", api.ErrShape},
		{rule("ab", "ba"), "aabba", "", api.ErrShape},
		{rule("ab", "ba"), "aa", "", api.ErrLost},
		{rule("ab", "ba"), "abbaaa", "", api.ErrLost},
		{rule("ab", "ba"), "cd", "", api.ErrLost},
		{rule("ab", "ba"), "abcdba", "", api.ErrLost},
		// The parts ab and ba are there, but not where the rule's words would be.
		{rule("ab", "ba"), "cabd", "", api.ErrLost},
		{rule("ab"), "abc", "", api.ErrShape},
		{rule("a", "a"), "aa", "aa", api.OK},
		{rule("b", "a", "a", "a"), "aba", "bab", api.OK},
		{rule("cd", "ab", "cd"), "abcdab", "bab", api.OK},
		{rule("abc", "bca"), "bcaabcbca", "bab", api.OK},
		{exampleL(), long, long[:46], api.OK},
		{exampleL(), long[:597], "", api.ErrShape},
		{exampleL(), "a" + long[1:], long[:46], api.OK},
		{exampleL(), "b" + long[1:], "", api.ErrLost},
		{exampleL(), long[:597] + "d", "", api.ErrLost},
		{rule(strings.Repeat("d", 12)), strings.Repeat("d", 600), strings.Repeat("a", 50), api.OK},
		{rule(strings.Repeat("d", 13)), strings.Repeat("d", 600), "", api.ErrShape},
		{rule("b", "c", "d", "a"), strings.Repeat("abcd", 150), strings.Repeat("dabc", 150), api.OK},
	} {
		s, e := curl.Back(x.r, x.word)
		same(t, "Back of "+x.word, s, e, x.want, x.e)
	}
}

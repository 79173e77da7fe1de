package curl_test

// The rules of DOC.md for this layer, which has no objects or files, and leaves nothing free (R8).

import (
	"math"
	"reflect"
	"slices"
	"strings"
	"testing"

	"aigrette/api"
	"aigrette/curl"
)

// call is a function with arguments: its results, the error last.
type call struct {
	name    string
	results func() []any
}

// callsOfWord returns the calls of all functions of a word without a rule.
func callsOfWord(word string, letters, length int) []call {
	return []call{
		{"Check", func() []any { e := curl.Check(word); return []any{e} }},
		{"Repeat", func() []any { x, y, e := curl.Repeat(word); return []any{x, y, e} }},
		{"Clear", func() []any { x, e := curl.Clear(word); return []any{x, e} }},
		{"Next", func() []any { x, e := curl.Next(word, letters); return []any{x, e} }},
		{"Longer", func() []any { x, e := curl.Longer(word, letters, length); return []any{x, e} }},
		{"Count", func() []any { x, e := curl.Count(letters, length); return []any{x, e} }},
	}
}

// callsOfRule returns the calls of all functions of a rule.
func callsOfRule(r curl.Rule, word string, length int) []call {
	return []call{
		{"CheckRule", func() []any { e := curl.CheckRule(r); return []any{e} }},
		{"Replace", func() []any { x, e := curl.Replace(r, word); return []any{x, e} }},
		{"Keeps", func() []any { x, e := curl.Keeps(r); return []any{x, e} }},
		{"Against", func() []any { x, e := curl.Against(r); return []any{x, e} }},
		{"Proves", func() []any { e := curl.Proves(r, word); return []any{e} }},
		{"Grow", func() []any { x, e := curl.Grow(r, length); return []any{x, e} }},
		{"Back", func() []any { x, e := curl.Back(r, word); return []any{x, e} }},
	}
}

// extreme returns numbers of which most are out of bounds.
func extreme() []int {
	return []int{math.MinInt, -1, 0, 1, 2, 3, 4, 5, 10, 11, 40, 41, 600, 601, 1 << 62, math.MaxInt}
}

// manyWords returns words and strings that are none.
func manyWords() []string {
	words, _ := wrong()
	long, _ := curl.Grow(exampleL(), 600)
	words = append(words, "", "a", "d", "aa", "abcdabcd", "abacaba", "abacabadabacaba", long, long[:46], long[:47], strings.Repeat("a", 600), strings.Repeat("abcd", 150))
	return append(words, wordsUpTo(2, 4)...)
}

// everyCall calls do with the calls of all functions with many arguments, many of them invalid.
func everyCall(do func(call call, arguments ...any)) {
	rules, _ := wrongRules()
	proven, _ := against()
	rules = slices.Concat(rules, proven, keeping(), rulesOf(1, 2), rulesOf(2, 1))
	numbers := extreme()
	for i, word := range manyWords() {
		for j, letters := range numbers {
			length := numbers[(3*i+7*j)%len(numbers)]
			for _, call := range callsOfWord(word, letters, length) {
				do(call, word, letters, length)
			}
		}
		for j, r := range rules {
			length := numbers[(i+5*j)%len(numbers)]
			for _, call := range callsOfRule(r, word, length) {
				do(call, r, word, length)
			}
		}
	}
	for _, letters := range numbers {
		for _, length := range numbers {
			for _, call := range callsOfWord("ab", letters, length) {
				do(call, "ab", letters, length)
			}
		}
	}
}

// P1, R5, R9, F8: each call returns, and returns the same again.
func TestSameAgain(t *testing.T) {
	everyCall(func(call call, arguments ...any) {
		if one, two := call.results(), call.results(); !reflect.DeepEqual(one, two) {
			t.Errorf("%s(%q): %v, then %v", call.name, arguments, one, two)
		}
	})
}

// R1: where several errors apply, the one that the chapter names first counts.
func TestFirstError(t *testing.T) {
	long := strings.Repeat("x", 601)
	_, form := curl.Next("aax", 5)
	_, bounds := curl.Next("aad", 0)
	_, none := curl.Next("aad", 3)
	_, length := curl.Longer("aad", 3, 41)
	_, proof := curl.Longer("aab", 3, 2)
	_, noLength := curl.Longer("abacaba", 3, 41)
	_, word := curl.Replace(rule("ab"), "bx")
	_, noLetter := curl.Replace(exampleL(), strings.Repeat("d", 600))
	_, ofRule := curl.Replace(rule("ax"), long)
	_, grow := curl.Grow(rule("x"), 601)
	_, range1 := curl.Grow(rule("ba", "cd"), 601)
	_, lost := curl.Grow(rule("ba", "cd"), 600)
	_, back := curl.Back(rule("ab"), "abx")
	_, shape := curl.Back(rule("ab"), "dcd")
	for _, x := range []struct {
		name      string
		got, want api.Errno
	}{
		{"many before form", curl.Check(long), api.ErrMany},
		{"form before range", form, api.ErrForm},
		{"range before none", bounds, api.ErrRange},
		{"none before proof", none, api.ErrNone},
		{"none before the range of the length", length, api.ErrNone},
		{"proof before the range of the length", proof, api.ErrProof},
		{"the range of the length before lost", noLength, api.ErrRange},
		{"many before shape and form", curl.CheckRule(rule("x", "", "y", "zz", "a")), api.ErrMany},
		{"shape before form of one word", curl.CheckRule(rule("ab", "xyz")), api.ErrShape},
		{"form of the first word before shape of the second one", curl.CheckRule(rule("ax", "b")), api.ErrForm},
		{"shape of the second word before form of the third one", curl.CheckRule(rule("ab", "b", "xx")), api.ErrShape},
		{"the rule before the word", ofRule, api.ErrForm},
		{"form before none", word, api.ErrForm},
		{"none before over", noLetter, api.ErrNone},
		{"none before over of Proves", curl.Proves(exampleL(), strings.Repeat("d", 600)), api.ErrNone},
		{"over before proof", curl.Proves(exampleL(), strings.Repeat("a", 47)), api.ErrOver},
		{"the rule before range", grow, api.ErrForm},
		{"range before lost", range1, api.ErrRange},
		{"lost before none", lost, api.ErrLost},
		{"form before shape", back, api.ErrForm},
		{"shape before lost", shape, api.ErrShape},
	} {
		sameError(t, x.name, x.got, x.want)
	}
}

// R2: besides an error all results are zero values.
func TestZeroBesidesError(t *testing.T) {
	everyCall(func(call call, arguments ...any) {
		results := call.results()
		last := len(results) - 1
		isNonZero := func(result any) bool { return !reflect.ValueOf(result).IsZero() }
		if results[last] != api.OK && slices.ContainsFunc(results[:last], isNonZero) {
			t.Errorf("%s(%q): %v", call.name, arguments, results)
		}
	})
}

// R3: a rule without words, nil or not, and the word without letters.
func TestEmptyLists(t *testing.T) {
	for _, r := range []curl.Rule{{}, {Words: []string{}}} {
		for _, call := range callsOfRule(r, "", 0) {
			results := call.results()
			if results[len(results)-1] != api.ErrEmpty {
				t.Errorf("%s without words: %v", call.name, results)
			}
		}
	}
	sameError(t, "Check of no letters", curl.Check(""), api.OK)
	sameRepeat(t, "", 0, 0, api.ErrLost)
	s, e := curl.Next("", 3)
	same(t, "Next of no letters", s, e, "abc", api.OK)
	s, e = curl.Longer("", 1, 0)
	same(t, "Longer of no letters", s, e, "", api.OK)
	s, e = curl.Replace(exampleL(), "")
	same(t, "Replace of no letters", s, e, "", api.OK)
	s, e = curl.Back(exampleL(), "")
	same(t, "Back of no letters", s, e, "", api.OK)
	sameError(t, "Proves of no letters", curl.Proves(rule("aa"), ""), api.ErrProof)
}

// R4: the words of a rule are not changed, nor what is behind them in their memory.
func TestArgumentsStay(t *testing.T) {
	proven, _ := against()
	for _, r := range append(keeping(), proven...) {
		memory := append(slices.Clone(r.Words), "dcba", "x")
		before := slices.Clone(memory)
		for _, call := range callsOfRule(curl.Rule{Words: memory[:len(r.Words)]}, "ab", 40) {
			call.results()
			if !slices.Equal(memory, before) {
				t.Fatalf("%s of %q: now %q", call.name, before, memory)
			}
		}
	}
}

// R4: a rule that is changed changes no result.
func TestRuleChangedLater(t *testing.T) {
	words := []string{"ab", "cb", "cd"}
	r := curl.Rule{Words: words}
	s, e := curl.Replace(r, "abc")
	same(t, "Replace", s, e, "abcbcd", api.OK)
	words[1] = "dd"
	same(t, "Replace before", s, e, "abcbcd", api.OK)
	s, e = curl.Replace(r, "abc")
	same(t, "Replace after", s, e, "abddcd", api.OK)
	s, e = curl.Against(r)
	same(t, "Against after", s, e, "b", api.OK)
}

// R6: letters are ascending, and of several words the smallest one is returned.
func TestSmallerList(t *testing.T) {
	for _, word := range clearOf(wordsUpTo(4, 6)) {
		if s := next(t, word, 4); s != sorted(s) {
			t.Errorf("Next of %s: %s", word, s)
		}
	}
	s, e := curl.Back(rule("ab", "ab", "cd", "ab"), "ababcd")
	same(t, "Back", s, e, "aac", api.OK)
	s, e = curl.Against(rule("a", "a", "a", "a"))
	same(t, "Against", s, e, "ab", api.OK)
	s, e = curl.Longer("", 4, 2)
	same(t, "Longer", s, e, "ab", api.OK)
}

// R7: bounds include both ends.
func TestBothEnds(t *testing.T) {
	inside := func(number, first, last int) api.Errno {
		if number < first || number > last {
			return api.ErrRange
		}
		return api.OK
	}
	for number := -2; number <= curl.MaxLength+2; number++ {
		_, e := curl.Next("a", number)
		sameError(t, "the letters of Next", e, inside(number, 1, 4))
		_, e = curl.Longer("a", number, 1)
		sameError(t, "the letters of Longer", e, inside(number, 1, 4))
		_, e = curl.Longer("a", 4, number)
		sameError(t, "the length of Longer", e, inside(number, 1, curl.MaxSearch))
		_, e = curl.Count(number, 3)
		sameError(t, "the letters of Count", e, inside(number, 1, 4))
		_, e = curl.Count(2, number)
		sameError(t, "the length of Count", e, inside(number, 0, curl.MaxCount))
		_, e = curl.Grow(exampleL(), number)
		sameError(t, "the length of Grow", e, inside(number, 0, curl.MaxLength))
		wanted := api.OK
		if number > curl.MaxLength {
			wanted = api.ErrMany
		}
		sameError(t, "the letters of a word", curl.Check(strings.Repeat("a", max(0, number))), wanted)
	}
	for size := range 30 {
		wanted := api.OK
		if size < 1 || size > curl.MaxRule {
			wanted = api.ErrShape
		}
		sameError(t, "the letters of a rule's word", curl.CheckRule(rule(strings.Repeat("a", size))), wanted)
		wanted = api.OK
		if size == 0 {
			wanted = api.ErrEmpty
		} else if size > 4 {
			wanted = api.ErrMany
		}
		sameError(t, "the words of a rule", curl.CheckRule(rule(slices.Repeat([]string{"ab"}, size)...)), wanted)
	}
}

// R9: the letters of a string are its bytes.
func TestBytes(t *testing.T) {
	sameError(t, "Check of 300 letters of two bytes", curl.Check(strings.Repeat("é", 300)), api.ErrForm)
	sameError(t, "Check of 301 letters of two bytes", curl.Check(strings.Repeat("é", 301)), api.ErrMany)
	sameError(t, "CheckRule of 7 letters of two bytes", curl.CheckRule(rule(strings.Repeat("é", 7))), api.ErrShape)
	sameError(t, "CheckRule of 6 letters of two bytes", curl.CheckRule(rule(strings.Repeat("é", 6))), api.ErrForm)
	for letter := range 256 {
		wanted := api.ErrForm
		if letter >= 'a' && letter <= 'd' {
			wanted = api.OK
		}
		sameError(t, "Check of a byte", curl.Check("a"+string([]byte{byte(letter)})+"b"), wanted)
		sameError(t, "CheckRule of a byte", curl.CheckRule(rule("a"+string([]byte{byte(letter)}))), wanted)
	}
}

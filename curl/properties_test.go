package curl_test

// P7.9 to P7.15, and with them F1 and F3 to F7 for this layer.

import (
	"slices"
	"strings"
	"testing"

	"aigrette/api"
	"aigrette/curl"
)

func clears(t *testing.T, word string) bool {
	t.Helper()
	is, e := curl.Clear(word)
	if e != api.OK {
		t.Fatalf("Clear of %q: %d", word, e)
	}
	return is
}

func keeps(t *testing.T, r curl.Rule) bool {
	t.Helper()
	is, e := curl.Keeps(r)
	if e != api.OK {
		t.Fatalf("Keeps of %q: %d", r, e)
	}
	return is
}

func next(t *testing.T, word string, letters int) string {
	t.Helper()
	s, e := curl.Next(word, letters)
	if e != api.OK {
		t.Fatalf("Next of %s, %d: %d", word, letters, e)
	}
	return s
}

func count(t *testing.T, letters, length int) int {
	t.Helper()
	n, e := curl.Count(letters, length)
	if e != api.OK {
		t.Fatalf("Count of %d, %d: %d", letters, length, e)
	}
	return n
}

func replaced(t *testing.T, r curl.Rule, word string) string {
	t.Helper()
	s, e := curl.Replace(r, word)
	if e != api.OK {
		t.Fatalf("Replace of %q, %s: %d", r, word, e)
	}
	return s
}

// everyRule calls do with rules of all kinds.
func everyRule(do func(r curl.Rule)) {
	for _, r := range slices.Concat(smallRules(), largerRules(), changedRules()) {
		do(r)
	}
}

// P7.9, F4: a proof has at most three letters and is accepted, and none before it is.
func TestProofsHaveThreeLetters(t *testing.T) {
	everyRule(func(r curl.Rule) {
		proof, e := curl.Against(r)
		if e == api.OK && (len(proof) > 3 || curl.Proves(r, proof) != api.OK) {
			t.Errorf("P7.9: Against of %q: %q", r, proof)
		}
		for _, word := range wordsUpTo(len(r.Words), 3) {
			before := e == api.ErrClash || len(word) < len(proof) || len(word) == len(proof) && word < proof
			if before && curl.Proves(r, word) != api.ErrProof {
				t.Errorf("P7.9: Against of %q: %q %d, Proves %q: OK", r, proof, e, word)
			}
		}
	})
}

// P7.9, F4: against a rule that keeps words clear nothing is a proof.
func TestNoProofAgainstRulesThatKeep(t *testing.T) {
	clear := clearFor(7)
	for _, r := range keeping() {
		for _, word := range clear[len(r.Words)] {
			if e := curl.Proves(r, word); e != api.ErrProof && e != api.ErrOver {
				t.Errorf("P7.9: Proves of %q, %s: %d", r, word, e)
			}
		}
	}
}

// P7.10, F1.
func TestThreeLettersSuffice(t *testing.T) {
	for letters, most := range []int{1: 1, 2: 3, 3: curl.MaxSearch, 4: curl.MaxSearch} {
		for length := 0; letters > 0 && length <= curl.MaxSearch; length++ {
			s, e := curl.Longer("", letters, length)
			if (e == api.OK) != (length <= most) || e == api.OK && (len(s) != length || !clears(t, s)) {
				t.Errorf("P7.10: Longer of %d, %d: %q %d", letters, length, s, e)
			}
			if length <= curl.MaxCount && (count(t, letters, length) > 0) != (length <= most) {
				t.Errorf("P7.10: Count of %d, %d", letters, length)
			}
		}
	}
	for length := range curl.MaxLength + 1 {
		s, e := curl.Grow(exampleL(), length)
		if e != api.OK || len(s) != length || strings.Trim(s, "abc") != "" || !clears(t, s) {
			t.Errorf("P7.10: Grow of L, %d: %q %d", length, s, e)
		}
	}
}

// F1: as many words are counted as Next leads to.
func TestCountOfNext(t *testing.T) {
	for letters := 1; letters <= 4; letters++ {
		words := []string{""}
		for length := range curl.MaxCount + 1 {
			if n := count(t, letters, length); n != len(words) {
				t.Errorf("Count of %d, %d: %d, want %d", letters, length, n, len(words))
			}
			var longer []string
			for _, word := range words {
				for _, letter := range next(t, word, letters) {
					longer = append(longer, word+string(letter))
				}
			}
			words = longer
		}
	}
}

// P7.11.
func TestPartsOfClearWords(t *testing.T) {
	for _, word := range someWords() {
		if len(word) > 20 {
			continue
		}
		parts := true
		for begin := range len(word) {
			for end := begin; end <= len(word); end++ {
				parts = parts && (end-begin == len(word) || clears(t, word[begin:end]))
			}
		}
		_, size, e := curl.Repeat(word)
		// Where only the whole word is not clear, it is the repeat.
		if is := clears(t, word); is && !parts || !is && parts && 2*size != len(word) {
			t.Errorf("P7.11: Clear of %s: %v, of its parts: %v, Repeat: %d %d", word, is, parts, size, e)
		}
	}
}

// turned returns a word turned around.
func turned(word string) string {
	letters := []byte(word)
	slices.Reverse(letters)
	return string(letters)
}

// leastRepeats returns the parts of a word that are not clear while all parts of them are.
func leastRepeats(t *testing.T, word string) []repeat {
	t.Helper()
	var least []repeat
	for place := range len(word) {
		for size := 1; place+2*size <= len(word); size++ {
			end := place + 2*size
			if !clears(t, word[place:end]) && clears(t, word[place+1:end]) && clears(t, word[place:end-1]) {
				least = append(least, repeat{place, size})
			}
		}
	}
	return least
}

// P7.11: the repeats of the word turned around are those of the word.
func TestTurnedAround(t *testing.T) {
	for i, word := range someWords() {
		back := turned(word)
		if clears(t, word) != clears(t, back) {
			t.Errorf("P7.11: Clear of %s, and turned around", word)
		}
		if i%5 != 0 || len(word) > 40 {
			continue
		}
		one, other := leastRepeats(t, word), leastRepeats(t, back)
		for _, r := range one {
			if !slices.Contains(other, repeat{len(word) - r.place - 2*r.size, r.size}) {
				t.Errorf("P7.11: the repeat %v of %s, turned around: %v", r, word, other)
			}
		}
		if len(one) != len(other) {
			t.Errorf("P7.11: %s has the repeats %v, turned around %v", word, one, other)
		}
	}
}

// P7.11: a single repeat is found from both sides.
func TestSingleRepeatTurnedAround(t *testing.T) {
	for _, word := range someWords() {
		if repeats := repeatsOf(word); len(repeats) == 1 {
			r := repeats[0]
			sameRepeat(t, word, r.place, r.size, api.OK)
			sameRepeat(t, turned(word), len(word)-r.place-2*r.size, r.size, api.OK)
		}
	}
}

// P7.12.
func TestLongerOfItsBeginnings(t *testing.T) {
	for _, word := range slices.Concat(wordsUpTo(4, 4), stuckWords(3), stuckWords(4)) {
		for letters := 3; letters <= 4; letters++ {
			begin := word[:len(word)*3/4]
			for _, length := range []int{len(begin) + 5, curl.MaxSearch} {
				longer, e := curl.Longer(begin, letters, length)
				if e != api.OK {
					continue
				}
				for cut := len(begin); cut <= length; cut++ {
					s, e := curl.Longer(longer[:cut], letters, length)
					same(t, "P7.12: Longer of "+longer[:cut], s, e, longer, api.OK)
				}
			}
		}
	}
}

// P7.12.
func TestLongerOfStuckWordsIsLost(t *testing.T) {
	for letters := 1; letters <= 4; letters++ {
		for _, word := range stuckWords(letters) {
			if after := next(t, word, letters); after != "" {
				t.Errorf("Next of %s, %d: %s", word, letters, after)
			}
			s, e := curl.Longer(word, letters, len(word))
			same(t, "P7.12: Longer of "+word, s, e, word, api.OK)
			for length := len(word) + 1; length <= curl.MaxSearch; length++ {
				s, e := curl.Longer(word, letters, length)
				same(t, "P7.12: Longer of "+word, s, e, "", api.ErrLost)
			}
		}
	}
}

// P7.13, F6.
func TestRulesThatKeep(t *testing.T) {
	everyRule(func(r curl.Rule) {
		if !keeps(t, r) {
			return
		}
		for i, word := range r.Words {
			if !clears(t, word) || slices.Contains(r.Words[:i], word) {
				t.Errorf("P7.13: %q keeps words clear", r)
			}
		}
		for _, word := range wordsUpTo(len(r.Words), 3) {
			back, e := curl.Back(r, replaced(t, r, word))
			same(t, "P7.13: Back of Replace of "+word, back, e, word, api.OK)
		}
	})
}

// F6: what Back returns becomes the word again, for all rules.
func TestThereAndBack(t *testing.T) {
	everyRule(func(r curl.Rule) {
		for _, word := range wordsUpTo(len(r.Words), 2) {
			became := replaced(t, r, word)
			back, e := curl.Back(r, became)
			if e != api.OK || back > word || replaced(t, r, back) != became {
				t.Errorf("F6: Back of %q, %s: %q %d", r, became, back, e)
			}
		}
	})
}

// P7.13: two rules one after the other.
func TestTwoRulesThatKeep(t *testing.T) {
	rules := keeping()
	for i, r := range append(smallRules(), largerRules()...) {
		if i%3 == 0 && keeps(t, r) {
			rules = append(rules, r)
		}
	}
	for _, one := range rules {
		for _, two := range rules {
			if len(one.Words[0])*len(two.Words[0]) > curl.MaxRule || strings.Trim(strings.Join(one.Words, ""), strings.Join(first(len(two.Words)), "")) != "" {
				continue
			}
			both := curl.Rule{}
			for _, word := range one.Words {
				both.Words = append(both.Words, replaced(t, two, word))
			}
			if !keeps(t, both) {
				t.Errorf("P7.13: %q and then %q: %q", one, two, both)
			}
		}
	}
}

// P7.14.
func TestGrowOfSmallerLengths(t *testing.T) {
	rules := keeping()
	for i, r := range append(smallRules(), largerRules()...) {
		if i%9 == 0 {
			rules = append(rules, r)
		}
	}
	for _, r := range rules {
		longest, e := curl.Grow(r, curl.MaxLength)
		if e != api.OK {
			continue
		}
		if keeps(t, r) && !clears(t, longest) {
			t.Errorf("P7.14: Grow of %q: %s", r, longest)
		}
		for length := range curl.MaxLength {
			s, e := curl.Grow(r, length)
			same(t, "P7.14: Grow of "+strings.Join(r.Words, ", "), s, e, longest[:length], api.OK)
		}
	}
}

// namings returns all other names of the letters.
func namings() []string {
	return slices.DeleteFunc(wordsOf(4, 4), func(names string) bool {
		return slices.ContainsFunc(first(4), func(letter string) bool { return !strings.Contains(names, letter) })
	})
}

// named returns the word with other names of all letters.
func named(word, names string) string {
	return strings.NewReplacer("a", names[0:1], "b", names[1:2], "c", names[2:3], "d", names[3:4]).Replace(word)
}

// sorted returns the letters of a word in ascending order.
func sorted(word string) string {
	letters := []byte(word)
	slices.Sort(letters)
	return string(letters)
}

// P7.15, F5: words with other names.
func TestOtherNamesOfWords(t *testing.T) {
	for i, word := range someWords() {
		if i%4 != 0 {
			continue
		}
		place, size, e := curl.Repeat(word)
		for _, names := range namings() {
			sameRepeat(t, named(word, names), place, size, e)
			if e == api.ErrLost {
				after := sorted(named(next(t, word, 4), names))
				if s := next(t, named(word, names), 4); s != after {
					t.Errorf("P7.15: Next of %s: %s, want %s", named(word, names), s, after)
				}
			}
		}
	}
}

// P7.15, F5: rules with other names of the letters in their words, and with their words in another order.
func TestOtherNamesOfRules(t *testing.T) {
	for i, r := range slices.Concat(smallRules(), largerRules(), changedRules()) {
		want := keeps(t, r)
		if i%20 != 0 && !want {
			continue
		}
		proof, e := curl.Against(r)
		for j, names := range namings() {
			other := curl.Rule{}
			for _, word := range r.Words {
				other.Words = append(other.Words, named(word, names))
			}
			s, f := curl.Against(other)
			same(t, "P7.15: Against of "+strings.Join(other.Words, ", "), s, f, proof, e)
			turn := j % len(r.Words)
			slices.Reverse(other.Words[turn:])
			slices.Reverse(other.Words)
			if s, _ = curl.Against(other); keeps(t, other) != want || len(s) != len(proof) {
				t.Errorf("P7.15: Keeps of %q: %v, but not of %q: %s", r, want, other, s)
			}
		}
	}
}

// F7: with more letters no word is lost.
func TestMoreLetters(t *testing.T) {
	for letters := 1; letters < 4; letters++ {
		for length := range curl.MaxCount + 1 {
			if count(t, letters, length) > count(t, letters+1, length) {
				t.Errorf("F7: Count of %d, %d", letters, length)
			}
		}
		for _, word := range slices.Concat(clearOf(wordsUpTo(letters, 5)), stuckWords(letters)) {
			if !strings.HasPrefix(next(t, word, letters+1), next(t, word, letters)) {
				t.Errorf("F7: Next of %s, %d", word, letters)
			}
			for length := len(word); length <= curl.MaxSearch; length++ {
				with, e := curl.Longer(word, letters, length)
				if more, f := curl.Longer(word, letters+1, length); e == api.OK && (f != api.OK || more > with) {
					t.Errorf("F7: Longer of %s: %d, %d: %s, with a letter more %s %d", word, letters, length, with, more, f)
				}
			}
		}
	}
}

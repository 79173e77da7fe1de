package curl

import (
	"slices"
	"strings"

	"aigrette/api"
)

// maxProof is the number of letters of the longest proofs that are needed: a rule whose words have all the
// same size keeps all words clear if it keeps those of three letters clear.
const maxProof = 3

// checkBoth returns the error of a rule, or of a word.
func checkBoth(r Rule, word string) api.Errno {
	if e := CheckRule(r); e != api.OK {
		return e
	}
	return Check(word)
}

// size returns the number of letters of each of the rule's words.
func (r Rule) size() int {
	return len(r.Words[0])
}

// letters returns the letters for which the rule has a word.
func (r Rule) letters() string {
	return firstLetters(len(r.Words))
}

// replace returns what a word becomes that has only letters of the rule.
func (r Rule) replace(word string) string {
	var replaced strings.Builder
	for _, letter := range word {
		replaced.WriteString(r.Words[letter-'a'])
	}
	return replaced.String()
}

// back returns the smallest word that becomes a word, which can be divided by the rule's size, and whether
// there is one.
func (r Rule) back(word string) (string, bool) {
	var back strings.Builder
	for rest := word; rest != ""; rest = rest[r.size():] {
		// Equal words of the rule stand for the smallest of their letters.
		number := slices.Index(r.Words, rest[:r.size()])
		if number < 0 {
			return "", false
		}
		back.WriteRune('a' + rune(number))
	}
	return back.String(), true
}

// against returns the smallest of the shortest proofs against the rule, and whether there is one.
func (r Rule) against() (string, bool) {
	for length := range maxProof + 1 {
		for word := range clearWords("", r.letters(), length) {
			if !isClear(r.replace(word)) {
				return word, true
			}
		}
	}
	return "", false
}

// grows tells whether a becomes a longer word that begins with a.
func (r Rule) grows() bool {
	return r.size() > 1 && strings.HasPrefix(r.Words[0], "a")
}

// goesOn tells whether what the rule makes can be replaced again.
func (r Rule) goesOn() bool {
	return hasOnly(strings.Join(r.Words, ""), r.letters())
}

// grow returns the first letters of what a becomes if the rule grows and goes on.
func (r Rule) grow(length int) string {
	word := "a"
	for len(word) < length {
		word = r.replace(word)
	}
	return word[:length]
}

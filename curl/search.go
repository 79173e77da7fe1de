package curl

import (
	"iter"
	"strings"
)

// lettersAfter returns the letters that can be put behind a clear word.
func lettersAfter(word, letters string) string {
	var after strings.Builder
	for _, letter := range letters {
		// A new repeat can only end with the new letter.
		if repeatAtEnd(word+string(letter)) == 0 {
			after.WriteRune(letter)
		}
	}
	return after.String()
}

// clearWords goes, in ascending order, through the clear words of a length that begin with a clear word
// and continue with some letters.
func clearWords(begin, letters string, length int) iter.Seq[string] {
	return func(yield func(string) bool) {
		extend(begin, letters, length, yield)
	}
}

// extend yields the words of clearWords, and returns whether more of them are asked for.
func extend(word, letters string, length int, yield func(string) bool) bool {
	if len(word) == length {
		return yield(word)
	}
	for _, letter := range lettersAfter(word, letters) {
		if !extend(word+string(letter), letters, length, yield) {
			return false
		}
	}
	return true
}

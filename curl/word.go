package curl

import (
	"strings"

	"aigrette/api"
)

// alphabet has all letters.
const alphabet = "abcd"

// isCount tells whether there are so many first letters.
func isCount(letters int) bool {
	return letters >= 1 && letters <= len(alphabet)
}

func firstLetters(count int) string {
	return alphabet[:count]
}

// hasOnly tells whether all letters of a word are among some letters.
func hasOnly(word, letters string) bool {
	for _, letter := range word {
		if !strings.ContainsRune(letters, letter) {
			return false
		}
	}
	return true
}

// checkClear returns the error of a word that has to be clear, and of how many first letters it may have.
func checkClear(word string, letters int) api.Errno {
	if e := Check(word); e != api.OK {
		return e
	}
	if !isCount(letters) {
		return api.ErrRange
	}
	if !hasOnly(word, firstLetters(letters)) {
		return api.ErrNone
	}
	if !isClear(word) {
		return api.ErrProof
	}
	return api.OK
}

func isClear(word string) bool {
	_, size := firstRepeat(word)
	return size == 0
}

// firstRepeat returns the repeat that ends first; its size is 0 if there is none.
func firstRepeat(word string) (place, size int) {
	for last := range word {
		if size := repeatAtEnd(word[:last+1]); size > 0 {
			return last + 1 - 2*size, size
		}
	}
	return 0, 0
}

// repeatAtEnd returns the size of the smallest repeat with which a word ends, or 0.
func repeatAtEnd(word string) int {
	for size := 1; 2*size <= len(word); size++ {
		middle := len(word) - size
		if strings.HasSuffix(word[:middle], word[middle:]) {
			return size
		}
	}
	return 0
}

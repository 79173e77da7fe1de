package curl_test

// All results compared with what the chapter's definitions alone say.

import (
	"slices"
	"strings"
	"testing"

	"aigrette/api"
	"aigrette/curl"
)

// first returns so many first letters.
func first(letters int) []string {
	return []string{"a", "b", "c", "d"}[:letters]
}

// wordsOf returns all words of a length of so many first letters, in ascending order.
func wordsOf(letters, length int) []string {
	words := []string{""}
	for range length {
		var longer []string
		for _, word := range words {
			for _, letter := range first(letters) {
				longer = append(longer, word+letter)
			}
		}
		words = longer
	}
	return words
}

// wordsUpTo returns all words of up to a length of so many first letters, the shorter ones first.
func wordsUpTo(letters, length int) []string {
	var words []string
	for n := range length + 1 {
		words = append(words, wordsOf(letters, n)...)
	}
	return words
}

// repeat is a repeat of a word.
type repeat struct{ place, size int }

// repeatsOf returns all repeats of a word.
func repeatsOf(word string) []repeat {
	var repeats []repeat
	for place := range len(word) {
		for size := 1; place+2*size <= len(word); size++ {
			if word[place:place+size] == word[place+size:place+2*size] {
				repeats = append(repeats, repeat{place, size})
			}
		}
	}
	return repeats
}

// isClear tells whether a word has no repeat.
func isClear(word string) bool {
	for place := range len(word) {
		for size := 1; place+2*size <= len(word); size++ {
			if word[place:place+size] == word[place+size:place+2*size] {
				return false
			}
		}
	}
	return true
}

// clearOf returns the words that are clear.
func clearOf(words []string) []string {
	return slices.DeleteFunc(slices.Clone(words), func(word string) bool { return !isClear(word) })
}

// seeds returns numbers that look as if they were drawn.
func seeds(seed int) func(bound int) int {
	state := uint32(seed*7919 + 17)
	return func(bound int) int {
		state = state*1664525 + 1013904223
		return int(state>>16) % bound
	}
}

// drawn returns a word that looks as if it were drawn.
func drawn(draw func(bound int) int, letters, length int) string {
	var word strings.Builder
	for range length {
		word.WriteString(first(letters)[draw(letters)])
	}
	return word.String()
}

// someWords returns all small words, and larger ones with few repeats and with many.
func someWords() []string {
	words := slices.Concat(wordsUpTo(4, 6), wordsOf(3, 8), wordsOf(2, 12))
	long, _ := curl.Grow(exampleL(), 600)
	for seed := range 200 {
		draw := seeds(seed)
		words = append(words, drawn(draw, 1+seed%4, draw(60)))
		begin := draw(500)
		part := long[begin : begin+draw(60)]
		place := draw(len(part) + 1)
		words = append(words, part, part[:place]+first(4)[draw(4)]+part[place:])
		words = append(words, part+part[:place], part[:place]+part, part+"d"+part+"d"+part[:place])
	}
	return words
}

// P7.1: all strings of up to four letters, some of which are none of a word.
func TestCheckOfAllStrings(t *testing.T) {
	all := []string{""}
	for i := 0; i < len(all); i++ {
		wanted := api.OK
		if strings.Trim(all[i], "abcd") != "" {
			wanted = api.ErrForm
		}
		sameError(t, "Check of "+all[i], curl.Check(all[i]), wanted)
		if len(all[i]) < 4 {
			for letter := range 256 {
				if i == 0 || strings.Contains("`abcdeAD \x80\xc3\xa9\xff", string([]byte{byte(letter)})) {
					all = append(all, all[i]+string([]byte{byte(letter)}))
				}
			}
		}
	}
}

// P7.1.
func TestRepeatOfAllWords(t *testing.T) {
	for _, word := range someWords() {
		repeats := repeatsOf(word)
		if len(repeats) == 0 {
			sameRepeat(t, word, 0, 0, api.ErrLost)
			continue
		}
		smallest := slices.MinFunc(repeats, func(r, s repeat) int {
			return slices.Compare([]int{r.place + 2*r.size, r.size}, []int{s.place + 2*s.size, s.size})
		})
		sameRepeat(t, word, smallest.place, smallest.size, api.OK)
	}
}

// errorOf returns the error that Next and Longer have for any length.
func errorOf(word string, letters int) api.Errno {
	switch {
	case letters < 1 || letters > 4:
		return api.ErrRange
	case strings.Trim(word, strings.Join(first(letters), "")) != "":
		return api.ErrNone
	case !isClear(word):
		return api.ErrProof
	}
	return api.OK
}

// P7.2.
func TestNextOfAllWords(t *testing.T) {
	for _, word := range someWords() {
		for letters := range 6 {
			next, wanted := "", errorOf(word, letters)
			if wanted == api.OK {
				for _, letter := range first(letters) {
					if isClear(word + letter) {
						next += letter
					}
				}
			}
			s, e := curl.Next(word, letters)
			same(t, "Next of "+word, s, e, next, wanted)
		}
	}
}

// P7.2: up to a length of which all words can be listed.
func TestLongerOfSmallWords(t *testing.T) {
	for letters := range 6 {
		lists := make([][]string, 8)
		for length := range lists {
			lists[length] = clearOf(wordsOf(min(max(1, letters), 4), length))
		}
		for _, word := range wordsUpTo(4, 5) {
			for length, words := range lists {
				longer, wanted := "", errorOf(word, letters)
				if wanted == api.OK && length < len(word) {
					wanted = api.ErrRange
				}
				if wanted == api.OK {
					i := slices.IndexFunc(words, func(w string) bool { return strings.HasPrefix(w, word) })
					if i < 0 {
						wanted = api.ErrLost
					} else {
						longer = words[i]
					}
				}
				s, e := curl.Longer(word, letters, length)
				same(t, "Longer of "+word, s, e, longer, wanted)
			}
		}
	}
}

// counted returns the smallest clear word of a length that begins with a clear word, as one finds it who
// counts up through the words, and passes over all that have a repeat that has been seen.
func counted(word string, letters, length int) (string, bool) {
	last := first(letters)[letters-1][0]
	at := []byte(word + strings.Repeat("a", length-len(word)))
	for {
		place := repeatEnd(string(at))
		if place < 0 {
			return string(at), true
		}
		for place >= len(word) && at[place] == last {
			place--
		}
		if place < len(word) {
			return "", false
		}
		at[place]++
		for i := place + 1; i < length; i++ {
			at[i] = 'a'
		}
	}
}

// repeatEnd returns the index of the letter with which the first repeat ends, or -1.
func repeatEnd(word string) int {
	for end := range len(word) {
		if !isClear(word[:end+1]) {
			return end
		}
	}
	return -1
}

// stuckWords returns clear words of up to MaxSearch of so many first letters that are not clear with any
// of these behind them.
func stuckWords(letters int) []string {
	switch letters {
	case 1:
		return []string{"a"}
	case 2:
		return []string{"aba", "bab"}
	case 4:
		// What was stuck still is so behind a letter d, and d cannot follow either.
		var stuck []string
		for _, word := range stuckWords(3) {
			if 2*len(word)+1 <= curl.MaxSearch {
				stuck = append(stuck, word+"d"+word)
			}
		}
		return stuck
	}
	stuck := []string{"abacaba", "bcbabcb"}
	for seed := range 250 {
		if word := walked(seeds(seed)); !slices.ContainsFunc(first(3), func(letter string) bool { return isClear(word + letter) }) {
			stuck = append(stuck, word)
		}
	}
	return stuck
}

// walked returns a clear word of three letters, which was continued as long as it could be.
func walked(draw func(bound int) int) string {
	word := drawn(draw, 3, 1)
	for len(word) < curl.MaxSearch {
		next := slices.DeleteFunc(first(3), func(letter string) bool { return !isClear(word + letter) })
		if len(next) == 0 {
			break
		}
		word += next[draw(len(next))]
	}
	return word
}

// P7.2: lengths of which not all words can be listed.
func TestLongerOfLargerWords(t *testing.T) {
	for i, word := range someWords() {
		length := len(word) + i%(curl.MaxSearch+1)
		if i%9 == 0 {
			for letters := 2; letters <= 4; letters++ {
				checkLonger(t, word, letters, length)
			}
		}
	}
}

// P7.2: words that can hardly be continued.
func TestLongerOfStuckWords(t *testing.T) {
	for letters := 1; letters <= 4; letters++ {
		for i, word := range stuckWords(letters) {
			for fewer := range min(8, len(word)) {
				begin := word[:len(word)-fewer]
				for _, length := range []int{len(begin) + i%4, len(word), len(word) + 1, len(word) + 2, curl.MaxSearch} {
					checkLonger(t, begin, letters, length)
				}
			}
		}
	}
}

// checkLonger compares Longer where it searches.
func checkLonger(t *testing.T, word string, letters, length int) {
	t.Helper()
	if errorOf(word, letters) != api.OK || length < len(word) || length > curl.MaxSearch {
		return
	}
	longer, found := counted(word, letters, length)
	wanted := api.OK
	if !found {
		wanted = api.ErrLost
	}
	s, e := curl.Longer(word, letters, length)
	same(t, "Longer of "+word, s, e, longer, wanted)
}

// P7.3.
func TestCountOfAllWords(t *testing.T) {
	for letters := 1; letters <= 4; letters++ {
		for length := range curl.MaxCount + 1 {
			n, e := curl.Count(letters, length)
			sameNumber(t, "Count", n, e, len(clearOf(wordsOf(letters, length))), api.OK)
		}
	}
}

// rulesOf returns all rules with so many words of one size.
func rulesOf(count, size int) []curl.Rule {
	rules := []curl.Rule{{}}
	for range count {
		var more []curl.Rule
		for _, r := range rules {
			for _, word := range wordsOf(4, size) {
				more = append(more, rule(append(slices.Clone(r.Words), word)...))
			}
		}
		rules = more
	}
	return rules
}

// smallRules returns all rules with few words of a small size.
func smallRules() []curl.Rule {
	rules := slices.Concat(rulesOf(1, 1), rulesOf(2, 1), rulesOf(3, 1), rulesOf(4, 1), rulesOf(1, 2), rulesOf(2, 2), rulesOf(3, 2), rulesOf(1, 3), rulesOf(2, 3), rulesOf(1, 4))
	for i, r := range rulesOf(4, 2) {
		if i%7 == 0 {
			rules = append(rules, r)
		}
	}
	return rules
}

// largerRules returns rules of all sizes, all but a few of whose words are clear.
func largerRules() []curl.Rule {
	proven, _ := against()
	rules := append(keeping(), proven...)
	for seed := range 3000 {
		draw := seeds(seed)
		count, size := 1+draw(4), 1+draw(curl.MaxRule)
		words := make([]string, count)
		for i := range words {
			words[i] = drawnClear(draw, size)
		}
		if draw(8) == 0 {
			words[draw(count)] = drawn(draw, 4, size)
		}
		rules = append(rules, rule(words...))
	}
	return rules
}

// drawnClear returns a clear word that looks as if it were drawn.
func drawnClear(draw func(bound int) int, size int) string {
	word := ""
	for len(word) < size {
		longer := word + first(4)[draw(4)]
		switch {
		case isClear(longer):
			word = longer
		case draw(4) == 0:
			word = word[:len(word)/2]
		}
	}
	return word
}

// become returns what a word becomes.
func become(r curl.Rule, word string) string {
	for i, with := range r.Words {
		// In the end no small letter is left of the word itself.
		word = strings.ReplaceAll(word, first(4)[i], strings.ToUpper(with))
	}
	return strings.ToLower(word)
}

// proofOf returns the smallest of the shortest proofs against a rule that are among clear words, of which
// the shorter ones come first.
func proofOf(r curl.Rule, clear []string) (string, bool) {
	for _, word := range clear {
		if !isClear(become(r, word)) {
			return word, true
		}
	}
	return "", false
}

// clearFor returns the clear words of up to a length of one first letter, of two, of three and of four.
func clearFor(length int) [5][]string {
	var clear [5][]string
	for letters := 1; letters <= 4; letters++ {
		clear[letters] = clearOf(wordsUpTo(letters, length))
	}
	return clear
}

// P7.6, P7.9: all small rules, with proofs of up to five letters.
func TestKeepsOfSmallRules(t *testing.T) {
	clear := clearFor(5)
	for _, r := range smallRules() {
		checkKeeps(t, r, clear[len(r.Words)])
	}
}

// P7.6, P7.9: some larger rules.
func TestKeepsOfLargerRules(t *testing.T) {
	clear := clearFor(5)
	for _, r := range largerRules() {
		checkKeeps(t, r, clear[len(r.Words)])
	}
}

// changedRules returns rules that keep words clear, each with one letter changed.
func changedRules() []curl.Rule {
	var changed []curl.Rule
	for _, r := range keeping() {
		for i, word := range r.Words {
			for place := range len(word) {
				for _, letter := range first(4) {
					words := slices.Clone(r.Words)
					words[i] = word[:place] + letter + word[place+1:]
					changed = append(changed, rule(words...))
				}
			}
		}
	}
	return changed
}

// P7.6, P7.9: rules that nearly keep words clear.
func TestKeepsOfChangedRules(t *testing.T) {
	clear := clearFor(5)
	for _, r := range changedRules() {
		checkKeeps(t, r, clear[len(r.Words)])
	}
}

// checkKeeps compares Keeps and Against.
func checkKeeps(t *testing.T, r curl.Rule, clear []string) {
	t.Helper()
	proof, found := proofOf(r, clear)
	keeps, e := curl.Keeps(r)
	if keeps == found || e != api.OK {
		t.Errorf("Keeps of %q: %v %d, proof: %q", r, keeps, e, proof)
	}
	wanted := api.OK
	if !found {
		wanted = api.ErrClash
	}
	s, e := curl.Against(r)
	same(t, "Against of "+strings.Join(r.Words, ", "), s, e, proof, wanted)
}

// P7.5, P7.6: some rules and all small words.
func TestReplaceOfAllWords(t *testing.T) {
	for i, r := range append(smallRules(), largerRules()...) {
		if i%40 == 0 {
			for _, word := range wordsUpTo(4, 4) {
				checkReplace(t, r, word)
			}
		}
	}
}

// P7.5, P7.6: words that become as long as possible, or too long.
func TestReplaceOfLongWords(t *testing.T) {
	long, _ := curl.Grow(exampleL(), 600)
	for i, r := range largerRules() {
		length := curl.MaxLength/len(r.Words[0]) + i%3 - 1
		if i%10 == 0 && length <= curl.MaxLength {
			checkReplace(t, r, long[:length])
			checkReplace(t, r, strings.Repeat("a", length))
			checkReplace(t, r, strings.Repeat("ab", length/2))
			checkReplace(t, r, strings.Repeat("d", length))
		}
	}
}

// checkReplace compares Replace and Proves, and Back of what a word becomes.
func checkReplace(t *testing.T, r curl.Rule, word string) {
	t.Helper()
	wanted, want := api.OK, become(r, word)
	switch {
	case strings.Trim(word, strings.Join(first(len(r.Words)), "")) != "":
		wanted, want = api.ErrNone, ""
	case len(want) > curl.MaxLength:
		wanted, want = api.ErrOver, ""
	}
	s, e := curl.Replace(r, word)
	same(t, "Replace of "+word, s, e, want, wanted)
	proves := wanted
	if wanted == api.OK && (!isClear(word) || isClear(want)) {
		proves = api.ErrProof
	}
	sameError(t, "Proves of "+word, curl.Proves(r, word), proves)
}

// P7.8: all words of some lengths, of which the smallest that becomes the other one is looked for.
func TestBackOfAllWords(t *testing.T) {
	for i, r := range append(smallRules(), largerRules()...) {
		size := len(r.Words[0])
		if i%100 != 0 || size > 6 {
			continue
		}
		smallest := map[string]string{}
		for _, word := range wordsUpTo(len(r.Words), 3) {
			become := become(r, word)
			if before, ok := smallest[become]; !ok || word < before {
				smallest[become] = word
			}
		}
		for _, word := range append(wordsUpTo(4, min(3*size, 6)), almost(smallest)...) {
			want, ok := smallest[word]
			wanted := api.OK
			switch {
			case len(word)%size != 0:
				wanted = api.ErrShape
			case !ok:
				wanted = api.ErrLost
			}
			s, e := curl.Back(r, word)
			same(t, "Back of "+word, s, e, want, wanted)
		}
	}
}

// almost returns the words, and each with one letter changed, put in or taken out.
func almost(words map[string]string) []string {
	var all []string
	for word := range words {
		all = append(all, word)
		for place := range len(word) {
			for _, letter := range first(4) {
				all = append(all, word[:place]+letter+word[place+1:])
			}
			all = append(all, word[:place]+word[place+1:])
		}
	}
	return slices.DeleteFunc(all, func(word string) bool { return len(word) > 18 })
}

// P7.7.
func TestGrowOfAllRules(t *testing.T) {
	for i, r := range append(smallRules(), largerRules()...) {
		size, made := len(r.Words[0]), strings.Join(r.Words, "")
		wanted := api.OK
		switch {
		case size == 1 || r.Words[0][0] != 'a':
			wanted = api.ErrLost
		case strings.Trim(made, strings.Join(first(len(r.Words)), "")) != "":
			wanted = api.ErrNone
		}
		word := "a"
		for wanted == api.OK && len(word) <= curl.MaxLength {
			word = become(r, word)
		}
		for _, length := range []int{0, 1, size, size*size + 1, i % 601, 600} {
			want := ""
			if wanted == api.OK {
				want = word[:length]
			}
			s, e := curl.Grow(r, length)
			same(t, "Grow of "+strings.Join(r.Words, ", "), s, e, want, wanted)
		}
	}
}

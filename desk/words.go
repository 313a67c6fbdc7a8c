package desk

import (
	"strconv"
	"strings"

	"rungwork/api"
)

// wantWords throws, unless there are just so many words.
func wantWords(words []string, n int) { want(len(words) == n, api.ErrForm) }

// joined are words with one blank between.
func joined(words []string) string { return strings.Join(words, " ") }

// numbers are those that words tell. Written again, each must be as it was: that leaves no nought ahead, no + and no -0.
func numbers(words []string) []int {
	var l []int
	for _, w := range words {
		n, err := strconv.ParseInt(w, 10, 64)
		want(err == nil && strconv.FormatInt(n, 10) == w, api.ErrForm)
		l = append(l, int(n))
	}
	return l
}

// say is a word, and numbers behind it.
func say(word string, l ...int) string {
	for _, n := range l {
		word += " " + strconv.Itoa(n)
	}
	return word
}

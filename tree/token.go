package tree

import (
	"strings"

	"rungwork/api"
)

// Kinds of tokens.
const (
	end = iota // of the text: no token stands there any more
	word
	number
	mark
)

// What words, numbers and what stands between tokens are made of.
const (
	letters = "abcdefghijklmnopqrstuvwxyz_"
	digits  = "0123456789"
	blanks  = " \t\n"
)

// marks are looked for in this order, so that none hides a longer one.
var marks = [...]string{":=", "<>", "<=", ">=", "<", ">", "=", "+", "-", "(", ")", ",", ";", ":", "."}

// kept are the words that are no names.
var kept = [...]string{
	"in", "out", "var", "bool", "byte", "timer", "counter", "edge", "begin", "end",
	"if", "then", "elsif", "else", "and", "or", "xor", "not", "true", "false",
}

// token is a word, a number or a mark, as it is written, and where.
type token struct {
	kind int
	text string
	at   int
}

// tokens are those of a text, and its end behind them.
func tokens(s string) []token {
	var l []token
	i := past(s, 0, oneOf(blanks))
	for i < len(s) {
		t := tokenAt(s, i)
		if t.kind == end {
			panic(&api.At{Err: api.ErrForm, Place: i})
		}
		if len(l) == api.MaxTokens {
			panic(&api.At{Err: api.ErrLimit, Place: i})
		}
		l = append(l, t)
		i = past(s, i+len(t.text), oneOf(blanks))
	}
	return append(l, token{kind: end, at: len(s)})
}

// tokenAt is the token that stands at a place; its kind is end, if there is none.
func tokenAt(s string, at int) token {
	if to := past(s, at, oneOf(digits)); to > at {
		return token{number, s[at:to], at}
	}
	if to := past(s, at, oneOf(letters+digits)); to > at {
		return token{word, s[at:to], at}
	}
	for _, m := range marks {
		if strings.HasPrefix(s[at:], m) {
			return token{mark, m, at}
		}
	}
	return token{kind: end, at: at}
}

// past is the first place, from one on, whose letter is not such.
func past(s string, at int, such func(c byte) bool) int {
	for at < len(s) && such(s[at]) {
		at++
	}
	return at
}

// oneOf makes a look at a letter: is it one of these?
func oneOf(these string) func(c byte) bool {
	return func(c byte) bool { return strings.IndexByte(these, c) >= 0 }
}

// isName says whether a token is a name, however long.
func isName(t token) bool {
	for _, k := range kept {
		if t.text == k {
			return false
		}
	}
	return t.kind == word
}

package desk

import (
	"maps"
	"slices"
	"strings"

	"rungwork/api"
	"rungwork/ladder"
	"rungwork/tree"
)

// What stands for line feeds within a line: between rungs, and in a program that is told.
const (
	between = ";"
	bar     = "|"
)

// fresh takes a program.
func (s *session) fresh(words []string) string {
	p := right(tree.Parse(joined(words)))
	s.start(p)
	return say("new", len(p.Decls))
}

// rungs takes rungs, and what is declared ahead of them, as a program.
func (s *session) rungs(words []string) string {
	ahead, behind, ok := strings.Cut(joined(words), " begin ")
	want(ok, api.ErrForm)
	decls := right(tree.Decls(ahead))
	l := rungsOf(behind)
	s.start(api.Program{Decls: decls, Body: ladder.Body(l)})
	return say("rungs", len(l))
}

// rungsOf reads rungs that stand in one line.
func rungsOf(text string) []ladder.Rung {
	return right(ladder.Parse(strings.ReplaceAll(text, between, feed)))
}

// draw tells rungs as they are written.
func (s *session) draw(words []string) string {
	return "draw " + strings.ReplaceAll(ladder.Print(rungsOf(joined(words))), feed, between)
}

// check tells how many statements lie in no others.
func (s *session) check(words []string) string {
	wantWords(words, 0)
	return say("check", len(s.program.Body))
}

// show tells the program.
func (s *session) show(words []string) string {
	wantWords(words, 0)
	return "print " + strings.ReplaceAll(tree.Print(s.program), feed, bar)
}

// help tells the words that lines begin with.
func (s *session) help(words []string) string {
	wantWords(words, 0)
	return joined(slices.Sorted(maps.Keys(s.acts())))
}

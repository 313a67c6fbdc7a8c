package ladder

import (
	"iter"
	"strings"

	"rungwork/api"
	"rungwork/tree"
)

// What a NAME is made of, and what may stand between all else.
const (
	inName = "abcdefghijklmnopqrstuvwxyz_0123456789"
	blanks = " "
)

// reader goes through the letters of a line.
type reader struct {
	line int
	left []rune // what is not read yet
}

// caught does something; what was found wrong on the way, and thrown, is its error.
func caught(do func()) (err error) {
	defer func() {
		thrown := recover()
		if thrown == nil {
			return
		}
		at, ok := thrown.(*api.At)
		if !ok {
			panic(thrown) // no fault of the text, so none may be made of it
		}
		err = at
	}()
	do()
	return nil
}

// lines are the lines of a text, and how many stand ahead of each.
func lines(s string) iter.Seq2[int, string] {
	return func(yield func(at int, line string) bool) {
		rest, more := s, true
		for at := 0; more; at++ {
			var line string
			line, rest, more = strings.Cut(rest, "\n")
			if !yield(at, line) {
				return
			}
		}
	}
}

// rungs reads all of a text.
func rungs(s string) []Rung {
	var l []Rung
	for at, line := range lines(s) {
		r := &reader{line: at, left: []rune(line)}
		if r.ended() {
			continue
		}
		if len(l) == api.MaxRungs {
			r.throw(api.ErrLimit) // ahead of reading it: whatever it is, it is too much
		}
		l = append(l, r.rung())
	}
	return l
}

// throw ends the reading with an error at the line.
func (r *reader) throw(e api.Errno) {
	panic(&api.At{Err: e, Place: r.line})
}

// oneOf makes a look at a letter: is it one of these?
func oneOf(these string) func(c rune) bool {
	return func(c rune) bool { return strings.ContainsRune(these, c) }
}

// all reads as many letters as are such.
func (r *reader) all(such func(c rune) bool) string {
	n := 0
	for n < len(r.left) && such(r.left[n]) {
		n++
	}
	got := string(r.left[:n])
	r.left = r.left[n:]
	return got
}

// ended says whether nothing but blanks is left.
func (r *reader) ended() bool {
	r.all(oneOf(blanks))
	return len(r.left) == 0
}

// sees says whether the letter behind the blanks is such.
func (r *reader) sees(such func(c rune) bool) bool {
	return !r.ended() && such(r.left[0])
}

// took reads a letter, if it stands behind the blanks.
func (r *reader) took(c rune) bool {
	if !r.sees(func(next rune) bool { return next == c }) {
		return false
	}
	r.left = r.left[1:]
	return true
}

// want reads a letter that must stand behind the blanks.
func (r *reader) want(c rune) {
	if !r.took(c) {
		r.throw(api.ErrForm)
	}
}

// name reads a NAME.
func (r *reader) name() string {
	r.all(oneOf(blanks))
	s := r.all(oneOf(inName))
	if !tree.Name(s) {
		r.throw(api.ErrForm)
	}
	return s
}

// rung reads a RUNG, up to the line's end.
func (r *reader) rung() Rung {
	var g Rung
	g.Cells = r.cells(0)
	r.want('(')
	g.Kind = r.kind()
	g.Name = r.name()
	r.want(')')
	if !r.ended() {
		r.throw(api.ErrForm)
	}
	return g
}

// kind reads what stands ahead of a coil's NAME.
func (r *reader) kind() int {
	if r.took('/') {
		return Turned
	}
	kind := Plain
	switch {
	case r.took('S'):
		kind = Latch
	case r.took('R'):
		kind = Unlatch
	}
	if kind != Plain && r.all(oneOf(blanks)) == "" {
		r.throw(api.ErrForm)
	}
	return kind
}

// cells reads CELLS that lie so deep in [.
func (r *reader) cells(deep int) []Cell {
	if deep > api.MaxDepth {
		r.throw(api.ErrLimit) // ahead of what stands there, which may be of no form
	}
	var l []Cell
	for !r.ended() && !r.sees(oneOf("(|]")) {
		l = append(l, r.cell(deep))
	}
	return l
}

// cell reads a cell of CELLS that lie so deep in [.
func (r *reader) cell(deep int) Cell {
	if r.took('[') {
		return Cell{Ways: r.ways(deep + 1)}
	}
	not := r.took('/')
	return Cell{Name: r.name(), Not: not}
}

// ways reads CELLS beside one another, and the ] behind them.
func (r *reader) ways(deep int) [][]Cell {
	l := [][]Cell{r.cells(deep)}
	for r.took('|') {
		l = append(l, r.cells(deep))
	}
	r.want(']')
	return l
}

package blast_test

import (
	"strconv"
	"testing"
)

// die draws numbers, the same each time.
type die uint64

func (d *die) n(most int) int {
	*d = *d*6364136223846793005 + 1442695040888963407
	return int(uint64(*d>>33) % uint64(most))
}

// of draws one of several.
func (d *die) of(l ...string) string { return l[d.n(len(l))] }

// bit draws an expression of a bit.
func (d *die) bit(deep int) string {
	if deep == 0 || d.n(4) == 0 {
		return d.of("a", "a", "b", "q", "v", "t.q", "c.q", "e.q", "true", "false", "not a")
	}
	switch d.n(4) {
	case 0:
		return "(" + d.byte(deep-1) + d.of(" < ", " <= ", " > ", " >= ", " = ", " <> ") + d.byte(deep-1) + ")"
	case 1:
		return "not " + d.bit(deep-1)
	}
	return "(" + d.bit(deep-1) + d.of(" and ", " or ", " xor ", " = ", " <> ") + d.bit(deep-1) + ")"
}

// byte draws an expression of a byte.
func (d *die) byte(deep int) string {
	if deep == 0 || d.n(4) == 0 {
		return d.of("n", "n", "m", "k", "t.et", "c.cv", "0", "1", "255", strconv.Itoa(d.n(256)))
	}
	if d.n(6) == 0 {
		return "not " + d.byte(deep-1)
	}
	return "(" + d.byte(deep-1) + d.of(" + ", " - ", " and ", " or ", " xor ") + d.byte(deep-1) + ")"
}

// stmts draws statements, at most so many.
func (d *die) stmts(most, deep int) string {
	text := ""
	for range d.n(most + 1) {
		text += d.stmt(deep)
	}
	return text
}

// stmt draws a statement.
func (d *die) stmt(deep int) string {
	switch kind := d.n(11); {
	case kind < 2:
		return d.of("q", "v") + " := " + d.bit(2) + "; "
	case kind < 4:
		return d.of("m", "k") + " := " + d.byte(2) + "; "
	case kind == 4:
		return "t(" + d.bit(1) + ", " + strconv.Itoa(d.n(6)) + "); "
	case kind == 5:
		return "c(" + d.bit(1) + ", " + d.bit(1) + ", " + strconv.Itoa(d.n(6)) + "); "
	case kind == 6 || deep == 0:
		return "e(" + d.bit(1) + "); "
	}
	text := "if " + d.bit(2) + " then " + d.stmts(3, deep-1)
	if d.n(3) == 0 {
		text += "elsif " + d.bit(1) + " then " + d.stmts(2, deep-1)
	}
	if d.n(2) == 0 {
		text += "else " + d.stmts(3, deep-1)
	}
	return text + "end; "
}

// Promise 7.1: drawn programs' nets let out, cycle by cycle, what the programs do, whatever is given.
func TestDrawn(t *testing.T) {
	d := die(71)
	for range 600 {
		text := "out q: bool = " + d.of("true", "false") + "; in a: bool; in n: byte; timer t; var v: bool; counter c; in b: bool; out m: byte = " + strconv.Itoa(d.n(256)) + "; var k: byte = " + strconv.Itoa(d.n(256)) + "; edge e; begin " + d.stmts(8, 3) + "q := q xor v xor t.q xor c.q xor e.q; m := m + k - t.et - c.cv; end"
		if tokens(text) > 800 {
			continue
		}
		x := made(t, parse(t, text))
		for range 25 {
			x.step(t, row{d.n(5) - 2, d.n(1000) - 500, d.n(4)}[:d.n(4)])
		}
	}
}

// Promise 7.1: so do those whose outgoing names are what the statements left, and nothing else.
func TestDrawnPlain(t *testing.T) {
	d := die(72)
	for range 600 {
		text := "in a: bool; in b: bool; in n: byte; out q: bool; out m: byte = 9; out v: bool = true; out k: byte; timer t; counter c; edge e; begin " + d.stmts(6, 2) + "end"
		if tokens(text) > 800 {
			continue
		}
		x := made(t, parse(t, text))
		for range 25 {
			x.step(t, row{d.n(2), d.n(2), d.n(256)})
		}
	}
}

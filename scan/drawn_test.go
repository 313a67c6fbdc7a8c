package scan_test

import (
	"slices"
	"strconv"
	"testing"
)

// die draws numbers, the same each time.
type die uint64

func (d *die) n(most int) int {
	*d = *d*6364136223846793005 + 1442695040888963407
	return int(uint64(*d>>33) % uint64(most))
}

// model is what a drawn program is meant to do, kept without the program's packages: names are fields, bytes are uint8.
type model struct {
	a, b, q, v bool
	n, m, k    uint8
	t, c, e    modelBlock
}

// modelBlock keeps whatever a block was called with, so that what it tells may be worked out of that anew each time.
type modelBlock struct {
	many  uint8
	lasts []bool
	tells bool
}

// rising says whether the last call's a holds and the one's ahead of it did not.
func (b *modelBlock) rising() bool {
	l := len(b.lasts)
	return b.lasts[l-1] && (l == 1 || !b.lasts[l-2])
}

// bits, bytes and acts are drawn parts of programs: what is meant by them.
type (
	bits  func(s *model) bool
	bytes func(s *model) uint8
	act   func(s *model)
)

// drawBit draws an expression of a bit, in ( and ), and what it is meant to be.
func drawBit(d *die, deep int) (string, bits) {
	if deep == 0 || d.n(4) == 0 {
		switch d.n(9) {
		case 0:
			return "a", func(s *model) bool { return s.a }
		case 1:
			return "b", func(s *model) bool { return s.b }
		case 2:
			return "q", func(s *model) bool { return s.q }
		case 3:
			return "v", func(s *model) bool { return s.v }
		case 4:
			return "t.q", func(s *model) bool { return s.t.tells }
		case 5:
			return "c.q", func(s *model) bool { return s.c.tells }
		case 6:
			return "e.q", func(s *model) bool { return s.e.tells }
		case 7:
			return "true", func(*model) bool { return true }
		}
		return "false", func(*model) bool { return false }
	}
	if d.n(3) == 0 {
		return drawCompared(d, deep)
	}
	x, f := drawBit(d, deep-1)
	y, g := drawBit(d, deep-1)
	switch d.n(6) {
	case 0:
		return "(" + x + " and " + y + ")", func(s *model) bool { return f(s) && g(s) }
	case 1:
		return "(" + x + " or " + y + ")", func(s *model) bool { return f(s) || g(s) }
	case 2:
		return "(" + x + " xor " + y + ")", func(s *model) bool { return f(s) != g(s) }
	case 3:
		return "(" + x + " = " + y + ")", func(s *model) bool { return f(s) == g(s) }
	case 4:
		return "(" + x + " <> " + y + ")", func(s *model) bool { return f(s) != g(s) }
	}
	return "not " + x, func(s *model) bool { return !f(s) }
}

// drawCompared draws two bytes, compared.
func drawCompared(d *die, deep int) (string, bits) {
	x, f := drawByte(d, deep-1)
	y, g := drawByte(d, deep-1)
	switch d.n(6) {
	case 0:
		return "(" + x + " < " + y + ")", func(s *model) bool { return f(s) < g(s) }
	case 1:
		return "(" + x + " <= " + y + ")", func(s *model) bool { return f(s) <= g(s) }
	case 2:
		return "(" + x + " > " + y + ")", func(s *model) bool { return f(s) > g(s) }
	case 3:
		return "(" + x + " >= " + y + ")", func(s *model) bool { return f(s) >= g(s) }
	case 4:
		return "(" + x + " = " + y + ")", func(s *model) bool { return f(s) == g(s) }
	}
	return "(" + x + " <> " + y + ")", func(s *model) bool { return f(s) != g(s) }
}

// drawByte draws an expression of a byte, in ( and ), and what it is meant to be.
func drawByte(d *die, deep int) (string, bytes) {
	if deep == 0 || d.n(4) == 0 {
		switch d.n(6) {
		case 0:
			return "n", func(s *model) uint8 { return s.n }
		case 1:
			return "m", func(s *model) uint8 { return s.m }
		case 2:
			return "k", func(s *model) uint8 { return s.k }
		case 3:
			return "t.et", func(s *model) uint8 { return s.t.many }
		case 4:
			return "c.cv", func(s *model) uint8 { return s.c.many }
		}
		n := d.n(256)
		return strconv.Itoa(n), func(*model) uint8 { return uint8(n) }
	}
	x, f := drawByte(d, deep-1)
	y, g := drawByte(d, deep-1)
	switch d.n(6) {
	case 0:
		return "(" + x + " + " + y + ")", func(s *model) uint8 { return f(s) + g(s) }
	case 1:
		return "(" + x + " - " + y + ")", func(s *model) uint8 { return f(s) - g(s) }
	case 2:
		return "(" + x + " and " + y + ")", func(s *model) uint8 { return f(s) & g(s) }
	case 3:
		return "(" + x + " or " + y + ")", func(s *model) uint8 { return f(s) | g(s) }
	case 4:
		return "(" + x + " xor " + y + ")", func(s *model) uint8 { return f(s) ^ g(s) }
	}
	return "not " + x, func(s *model) uint8 { return 255 - f(s) }
}

// drawStmts draws statements, at most so many, and what they are meant to do.
func drawStmts(d *die, most, deep int) (string, act) {
	text, all := "", []act{}
	for range d.n(most + 1) {
		s, f := drawStmt(d, deep)
		text, all = text+s, append(all, f)
	}
	return text, func(s *model) {
		for _, f := range all {
			f(s)
		}
	}
}

// drawStmt draws a statement, and what it is meant to do.
func drawStmt(d *die, deep int) (string, act) {
	switch kind := d.n(10); {
	case kind == 0:
		x, f := drawBit(d, 2)
		return "q := " + x + "; ", func(s *model) { s.q = f(s) }
	case kind == 1:
		x, f := drawBit(d, 2)
		return "v := " + x + "; ", func(s *model) { s.v = f(s) }
	case kind == 2:
		x, f := drawByte(d, 2)
		return "m := " + x + "; ", func(s *model) { s.m = f(s) }
	case kind == 3:
		x, f := drawByte(d, 2)
		return "k := " + x + "; ", func(s *model) { s.k = f(s) }
	case kind < 7 || deep == 0:
		return drawCall(d)
	}
	x, f := drawBit(d, 2)
	then, g := drawStmts(d, 2, deep-1)
	other, h := drawStmts(d, 2, deep-1)
	return "if " + x + " then " + then + "else " + other + "end; ", func(s *model) {
		if f(s) {
			g(s)
			return
		}
		h(s)
	}
}

// drawCall draws a call, and what it is meant to do.
func drawCall(d *die) (string, act) {
	x, f := drawBit(d, 1)
	y, g := drawBit(d, 1)
	n := d.n(6)
	switch d.n(3) {
	case 0:
		return "t(" + x + ", " + strconv.Itoa(n) + "); ", func(s *model) { callTimer(&s.t, f(s), n) }
	case 1:
		return "c(" + x + ", " + y + ", " + strconv.Itoa(n) + "); ", func(s *model) { callCounter(&s.c, f(s), g(s), n) }
	}
	return "e(" + x + "); ", func(s *model) {
		s.e.lasts = append(s.e.lasts, f(s))
		s.e.tells = s.e.rising()
	}
}

// callTimer is a Timer's call, as it is meant.
func callTimer(b *modelBlock, a bool, n int) {
	switch {
	case !a:
		b.many, b.tells = 0, false
	case int(b.many) < n:
		b.many++
		b.tells = int(b.many) == n
	default:
		b.tells = true
	}
}

// callCounter is a Counter's call, as it is meant.
func callCounter(b *modelBlock, a, again bool, n int) {
	b.lasts = append(b.lasts, a)
	switch {
	case again:
		b.many = 0
	case b.rising() && b.many != 255:
		b.many++
	}
	b.tells = int(b.many) >= n
}

// one is 1 of true.
func one(b bool) int {
	if b {
		return 1
	}
	return 0
}

// Promises 5.1, 5.2: drawn programs do, cycle by cycle, what was meant as they were drawn, and so is each name.
func TestDrawn(t *testing.T) {
	d := die(11)
	for i := range 400 {
		body, f := drawStmts(&d, 7, 2)
		s := model{q: d.n(2) == 1, m: uint8(d.n(256)), k: uint8(d.n(256))}
		text := "out q: bool = " + strconv.FormatBool(s.q) + "; in a: bool; in n: byte; timer t; var v: bool; counter c; in b: bool; out m: byte = " + strconv.Itoa(int(s.m)) + "; var k: byte = " + strconv.Itoa(int(s.k)) + "; edge e; begin " + body + "end"
		x := plant(t, text)
		for cycle := range 25 {
			a, n, b := d.n(5)-2, d.n(1000)-500, d.n(4)
			s.a, s.n, s.b = a&1 == 1, uint8(n), b&1 == 1
			f(&s)
			if got, want := x.Step(row{a, n, b}), (row{one(s.q), int(s.m)}); !slices.Equal(got, want) {
				t.Fatalf("program %d, cycle %d: %v, want %v: %s", i, cycle, got, want, text)
			}
			sameNow(t, text, x.Get, &s)
		}
	}
}

// sameNow asks for all names, and all fields.
func sameNow(t *testing.T, text string, get func(name, field string) (int, bool), s *model) {
	t.Helper()
	for _, c := range []struct {
		name, field string
		want        int
	}{
		{"a", "", one(s.a)}, {"b", "", one(s.b)}, {"q", "", one(s.q)}, {"v", "", one(s.v)}, {"n", "", int(s.n)}, {"m", "", int(s.m)}, {"k", "", int(s.k)},
		{"t", "q", one(s.t.tells)}, {"c", "q", one(s.c.tells)}, {"e", "q", one(s.e.tells)}, {"t", "et", int(s.t.many)}, {"c", "cv", int(s.c.many)},
	} {
		if got, ok := get(c.name, c.field); got != c.want || !ok {
			t.Fatalf("%s.%s is %d, %v, want %d: %s", c.name, c.field, got, ok, c.want, text)
		}
	}
}

package clean_test

import (
	"slices"
	"strconv"
	"testing"

	"rungwork/api"
	"rungwork/blast"
	"rungwork/gate"
	"rungwork/ladder"
	"rungwork/scan"
	"rungwork/tree"
	"rungwork/value"
)

// blasted is the net of a program's text.
func blasted(t *testing.T, text string) (api.Program, *gate.Net) {
	t.Helper()
	p, err := tree.Parse(text)
	if err != nil {
		t.Fatalf("%q: error %d", text, api.Tell(err))
	}
	n, err := blast.Blast(p)
	if err != nil {
		t.Fatalf("%q: error %d", text, api.Tell(err))
	}
	return p, n
}

// goes holds a program's cleaned net against what is meant, cycle by cycle.
func goes(t *testing.T, p api.Program, n *gate.Net, cycles int, given func(cycle int) []int) {
	t.Helper()
	m := cleaned(t, n)
	plant, err := scan.New(p)
	if err != nil {
		t.Fatalf("%.600s: error %d", tree.Print(p), api.Tell(err))
	}
	s := sim(t, m)
	for cycle := range cycles {
		g := given(cycle)
		want, in, rest := bitsOut(p.Decls, plant.Step(g)), []bool(nil), g
		for _, d := range p.Decls {
			if d.Way != api.In {
				continue
			}
			k := 0
			if len(rest) > 0 {
				k, rest = rest[0], rest[1:]
			}
			in = append(in, value.Bits(d.Type, k)...)
		}
		if got := s.Step(in); !slices.Equal(got, want) {
			t.Fatalf("cycle %d, of %v: %v, want %v: %.900s", cycle, g, got, want, tree.Print(p))
		}
	}
}

// bitsOut are the bits of what comes out, of the types of Out, in order.
func bitsOut(decls []api.Decl, l []int) []bool {
	var out []bool
	for _, d := range decls {
		if d.Way == api.Out {
			out, l = append(out, value.Bits(d.Type, l[0])...), l[1:]
		}
	}
	return out
}

// bit draws an expression of a bit.
func (d *die) bit(deep int) string {
	if deep == 0 || d.n(4) == 0 {
		return d.of("a", "a", "b", "q", "v", "t.q", "c.q", "e.q", "true", "false", "not a")
	}
	switch d.n(4) {
	case 0:
		return "(" + d.byte(deep-1) + d.of(" < ", " <= ", " > ", " >= ", " = ", " <> ") + d.byte(deep-1) + ")"
	case 1:
		return "not " + d.bit(deep-1)
	}
	return "(" + d.bit(deep-1) + d.of(" and ", " or ", " xor ", " = ", " <> ") + d.bit(deep-1) + ")"
}

// byte draws an expression of a byte.
func (d *die) byte(deep int) string {
	if deep == 0 || d.n(4) == 0 {
		return d.of("n", "n", "m", "k", "t.et", "c.cv", "0", "1", "255", strconv.Itoa(d.n(256)))
	}
	if d.n(6) == 0 {
		return "not " + d.byte(deep-1)
	}
	return "(" + d.byte(deep-1) + d.of(" + ", " - ", " and ", " or ", " xor ") + d.byte(deep-1) + ")"
}

// stmts draws statements, at most so many.
func (d *die) stmts(most, deep int) string {
	text := ""
	for range d.n(most + 1) {
		text += d.stmt(deep)
	}
	return text
}

// stmt draws a statement.
func (d *die) stmt(deep int) string {
	switch kind := d.n(10); {
	case kind < 2:
		return d.of("q", "v") + " := " + d.bit(2) + "; "
	case kind < 4:
		return d.of("m", "k") + " := " + d.byte(2) + "; "
	case kind == 4:
		return "t(" + d.bit(1) + ", " + strconv.Itoa(d.n(6)) + "); "
	case kind == 5:
		return "c(" + d.bit(1) + ", " + d.bit(1) + ", " + strconv.Itoa(d.n(6)) + "); "
	case kind == 6 || deep == 0:
		return "e(" + d.bit(1) + "); "
	}
	text := "if " + d.bit(2) + " then " + d.stmts(3, deep-1)
	if d.n(2) == 0 {
		text += "else " + d.stmts(3, deep-1)
	}
	return text + "end; "
}

// Promise 8.1: drawn programs' cleaned nets let out, cycle by cycle, what the programs do, whatever is given.
func TestDrawnPrograms(t *testing.T) {
	d, done, gates, left := die(88), 0, 0, 0
	for range 500 {
		text := "in a: bool; in n: byte; out q: bool = " + d.of("true", "false") + "; timer t; var v: bool; counter c; in b: bool; out m: byte = " + strconv.Itoa(d.n(256)) + "; var k: byte = " + strconv.Itoa(d.n(256)) + "; edge e; begin " + d.stmts(6, 3) + d.of("", "q := q xor v xor t.q xor c.q xor e.q; m := m + k - t.et - c.cv; ") + "end"
		p, err := tree.Parse(text)
		if api.Tell(err) == api.ErrLimit {
			continue
		}
		n, err := blast.Blast(p)
		if err != nil {
			t.Fatalf("%q: error %d", text, api.Tell(err))
		}
		goes(t, p, n, 25, func(int) []int { return []int{d.n(5) - 2, d.n(1000) - 500, d.n(4)}[:d.n(4)] })
		done, gates, left = done+1, gates+n.Gates(), left+cleaned(t, n).Gates()
	}
	if done < 400 || 4*left > 3*gates {
		t.Errorf("%d programs: %d gates of %d are left", done, left, gates)
	}
}

// Promise 8.1: blocks count as far as they may.
func TestBlocks(t *testing.T) {
	for _, text := range []string{
		"in a: bool; in b: bool; out q: bool; out m: byte; counter c; begin c(a, b, 255); q := c.q; m := c.cv; end",
		"in a: bool; in b: bool; out q: bool; out m: byte; timer t; begin t(a or not b, 255); q := t.q; m := t.et; end",
		"in a: bool; in b: bool; out q: bool; out m: byte = 7; edge e; begin e(a); if e.q then m := m + 3; end; q := m > 200; end",
	} {
		p, n := blasted(t, text)
		goes(t, p, n, 600, func(cycle int) []int { return []int{1 - cycle%2*(cycle/300), cycle / 590} })
		goes(t, p, n, 600, func(cycle int) []int { return []int{cycle % 2, cycle / 570} })
	}
}

// Promise 8.2: of a program that hangs on nothing that is given, nor kept, no gate is left; and what is kept, but never changes, is known.
func TestKnownPrograms(t *testing.T) {
	for _, text := range []string{
		"begin end",
		"out m: byte; out q: bool; begin m := 250 + 10 - 3; q := m > 7 and not (m = 9); end",
		"in a: bool; var k: byte = 9; out m: byte; begin m := k + 1; if k > 9 and a then m := 0; end; end",
		"in n: byte; var k: byte = 9; var v: bool; out m: byte; begin if v then k := n; v := k < 200; end; m := k + k; end",
		"in a: bool; timer t; out q: bool; out m: byte; begin t(a and false, 3); q := t.q; m := t.et + 200; end",
	} {
		p, n := blasted(t, text)
		if m := cleaned(t, n); m.Gates() != 0 {
			t.Errorf("%s: %d gates are left", text, m.Gates())
		}
		goes(t, p, n, 5, func(cycle int) []int { return []int{1 + cycle} })
	}
}

// Promise 8.2: the nets of programs that keep nothing, beside themselves, have no more gates than alone.
func TestProgramsBesideThemselves(t *testing.T) {
	d, done := die(89), 0
	for _, op := range []string{"+", "-", "<", "<=", ">", ">=", "=", "<>", "and", "or", "xor"} {
		e := "n " + op + " (o " + d.of("+", "-") + " " + strconv.Itoa(d.n(256)) + ")"
		if value.Result(op, api.Byte, api.Byte) == api.Bool {
			e = "n + o; if " + e + " then m := o - n; end"
		}
		p, n := blasted(t, "in n: byte; in o: byte; out m: byte; begin m := "+e+"; end")
		goes(t, p, n, 60, func(int) []int { return []int{d.n(256), d.n(256)} })
		if slices.ContainsFunc(n.Nodes, func(x gate.Node) bool { return x.Op == gate.Reg }) {
			t.Fatalf("%s: it keeps something", e)
		}
		for range 8 {
			beside(t, &d, n)
			done++
		}
	}
	if done == 0 {
		t.Error("nothing was asked")
	}
}

// Promise 8.1: rungs' nets go as the rungs do.
func TestRungs(t *testing.T) {
	l, err := ladder.Parse("a [/b | c d] (S q)\nb /c (R q)\nq [d | /d a] (p)\np a (/r)\n")
	if err != nil {
		t.Fatal(err)
	}
	decls, err := tree.Decls("in a: bool; in b: bool; in c: bool; in d: bool; out q: bool; out p: bool; out r: bool;")
	if err != nil {
		t.Fatal(err)
	}
	p := api.Program{Decls: decls, Body: ladder.Body(l)}
	n, err := blast.Blast(p)
	if err != nil {
		t.Fatal(err)
	}
	d := die(80)
	goes(t, p, n, 300, func(int) []int { return []int{d.n(2), d.n(2), d.n(2), d.n(2)} })
}

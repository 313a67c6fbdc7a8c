package lut_test

import (
	"slices"
	"strconv"
	"testing"

	"rungwork/api"
	"rungwork/blast"
	"rungwork/clean"
	"rungwork/gate"
	"rungwork/lut"
	"rungwork/scan"
	"rungwork/tree"
	"rungwork/value"
)

// nets are the nets of a program's text: as it was made, and of fewer gates.
func nets(t *testing.T, text string) (api.Program, []*gate.Net) {
	t.Helper()
	p, err := tree.Parse(text)
	if err != nil {
		t.Fatalf("%q: error %d", text, api.Tell(err))
	}
	n, err := blast.Blast(p)
	if err != nil {
		t.Fatalf("%q: error %d", text, api.Tell(err))
	}
	m, err := clean.Clean(n)
	if err != nil {
		t.Fatalf("%q: error %d", text, api.Tell(err))
	}
	return p, []*gate.Net{n, m}
}

// goes holds a net of tables against what its program is meant to do, cycle by cycle.
func goes(t *testing.T, p api.Program, m *lut.Net, cycles int, given func(cycle int) []int) {
	t.Helper()
	plant, err := scan.New(p)
	if err != nil {
		t.Fatalf("%.600s: error %d", tree.Print(p), api.Tell(err))
	}
	s := made(t, m)
	for cycle := range cycles {
		g := given(cycle)
		in, want := wired(p, api.In, g), wired(p, api.Out, plant.Step(g))
		if got := s.Step(in); !slices.Equal(got, want) {
			t.Fatalf("cycle %d, of %v: %v, want %v: %.900s", cycle, g, got, want, tree.Print(p))
		}
	}
}

// wired are the bits of numbers of what is declared in a way, in order; what is missing is 0.
func wired(p api.Program, way int, l []int) []bool {
	var out []bool
	for _, d := range p.Decls {
		if d.Way == way {
			k := 0
			if len(l) > 0 {
				k, l = l[0], l[1:]
			}
			out = append(out, value.Bits(d.Type, k)...)
		}
	}
	return out
}

// of draws one of several.
func (d *die) of(l ...string) string { return l[d.n(len(l))] }

// bit draws an expression of a bit.
func (d *die) bit(deep int) string {
	if deep == 0 || d.n(4) == 0 {
		return d.of("a", "a", "b", "q", "v", "t.q", "c.q", "e.q", "true", "not a")
	}
	switch d.n(4) {
	case 0:
		return "(" + d.byte(deep-1) + d.of(" < ", " <= ", " > ", " >= ", " = ", " <> ") + d.byte(deep-1) + ")"
	case 1:
		return "not " + d.bit(deep-1)
	}
	return "(" + d.bit(deep-1) + d.of(" and ", " or ", " xor ", " = ", " <> ") + d.bit(deep-1) + ")"
}

// byte draws an expression of a byte.
func (d *die) byte(deep int) string {
	if deep == 0 || d.n(4) == 0 {
		return d.of("n", "n", "m", "k", "t.et", "c.cv", "1", "255", strconv.Itoa(d.n(256)))
	}
	return "(" + d.byte(deep-1) + d.of(" + ", " - ", " and ", " or ", " xor ") + d.byte(deep-1) + ")"
}

// stmts draws statements, at most so many.
func (d *die) stmts(most, deep int) string {
	text := ""
	for range d.n(most + 1) {
		text += d.stmt(deep)
	}
	return text
}

// stmt draws a statement.
func (d *die) stmt(deep int) string {
	switch kind := d.n(10); {
	case kind < 2:
		return d.of("q", "v") + " := " + d.bit(2) + "; "
	case kind < 4:
		return d.of("m", "k") + " := " + d.byte(2) + "; "
	case kind == 4:
		return "t(" + d.bit(1) + ", " + strconv.Itoa(d.n(6)) + "); "
	case kind == 5:
		return "c(" + d.bit(1) + ", " + d.bit(1) + ", " + strconv.Itoa(d.n(6)) + "); "
	case kind == 6 || deep == 0:
		return "e(" + d.bit(1) + "); "
	}
	return "if " + d.bit(2) + " then " + d.stmts(3, deep-1) + "else " + d.stmts(3, deep-1) + "end; "
}

// Promise 9.3: drawn programs' packed nets let out, cycle by cycle, what the programs do, whatever is given.
func TestDrawnPrograms(t *testing.T) {
	d, done := die(90), 0
	for range 250 {
		text := "in a: bool; in n: byte; out q: bool = " + d.of("true", "false") + "; timer t; var v: bool; counter c; in b: bool; out m: byte = " + strconv.Itoa(d.n(256)) + "; var k: byte = " + strconv.Itoa(d.n(256)) + "; edge e; begin " + d.stmts(6, 3) + d.of("", "q := q xor v xor t.q xor c.q xor e.q; m := m + k - t.et - c.cv; ") + "end"
		if _, err := tree.Parse(text); api.Tell(err) == api.ErrLimit {
			continue
		}
		p, l := nets(t, text)
		for _, n := range l {
			goes(t, p, packed(t, n), 20, func(int) []int { return []int{d.n(5) - 2, d.n(1000) - 500, d.n(4)}[:d.n(4)] })
		}
		done++
	}
	if done < 200 {
		t.Errorf("only %d programs", done)
	}
}

// Promise 9.3: blocks count as far as they may; their tables are fewer than half of the gates, and lie less deep.
func TestBlocks(t *testing.T) {
	for _, text := range []string{
		"in a: bool; in b: bool; out q: bool; out m: byte; counter c; begin c(a, b, 255); q := c.q; m := c.cv; end",
		"in a: bool; in b: bool; out q: bool; out m: byte; timer t; begin t(a or not b, 255); q := t.q; m := t.et; end",
		"in a: bool; in b: bool; out q: bool; out m: byte = 7; edge e; begin e(a); if e.q then m := m + 3; end; q := m > 200 xor b; end",
	} {
		p, l := nets(t, text)
		for _, n := range l {
			m := packed(t, n)
			if 2*len(m.Luts) > n.Gates() || m.Depth() >= deep(n) {
				t.Errorf("%s: %d tables of %d gates, Depth %d of %d", text, len(m.Luts), n.Gates(), m.Depth(), deep(n))
			}
			goes(t, p, m, 600, func(cycle int) []int { return []int{1 - cycle%2*(cycle/300), cycle / 590} })
			goes(t, p, m, 600, func(cycle int) []int { return []int{cycle % 2, cycle / 570} })
		}
	}
}

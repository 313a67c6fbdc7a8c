package image_test

import (
	"slices"
	"testing"

	"rungwork/api"
	"rungwork/blast"
	"rungwork/clean"
	"rungwork/image"
	"rungwork/lut"
	"rungwork/tree"
)

// die draws numbers, the same each time.
type die uint64

func (d *die) n(most int) int {
	*d = *d*6364136223846793005 + 1442695040888963407
	return int(uint64(*d>>33) % uint64(most))
}

// tables draws a net that may be, of so many of each at most.
func (d *die) tables(given, registers, tables int) *lut.Net {
	n := &lut.Net{Given: 1 + d.n(given), Regs: make(regs, d.n(registers+1)), Luts: make(luts, d.n(tables+1))}
	first := n.Given + len(n.Regs)
	all := first + len(n.Luts)
	for i := range n.Regs {
		n.Regs[i] = lut.Reg{Init: d.n(2) == 0, Next: d.n(all)}
	}
	for i := range n.Luts {
		l := lut.Lut{}
		for range d.n(5) {
			l.Ins = append(l.Ins, d.n(first+i))
		}
		l.Table = d.n(1 << (1 << len(l.Ins)))
		n.Luts[i] = l
	}
	for range d.n(8) {
		n.Outs = append(n.Outs, d.n(all))
	}
	return n
}

// Promise 10.1: a program's tables go to bytes and back, and let out the same.
func TestProgram(t *testing.T) {
	p, err := tree.Parse("in a: bool; in n: byte; timer t; counter c; var k: byte = 7; out q: bool; out m: byte; begin t(a, 3); c(n > 9, a, 200); k := k + n; if t.q or c.q then m := k; end; q := k > 99 and not t.q; end")
	if err != nil {
		t.Fatal(api.Tell(err))
	}
	g, err := blast.Blast(p)
	if err != nil {
		t.Fatal(api.Tell(err))
	}
	if g, err = clean.Clean(g); err != nil {
		t.Fatal(api.Tell(err))
	}
	n, err := lut.Pack(g)
	if err != nil {
		t.Fatal(api.Tell(err))
	}
	m, err := image.Parse(asked(t, n))
	if err != nil {
		t.Fatal(api.Tell(err))
	}
	one, _ := lut.New(n)
	two, _ := lut.New(m)
	d := die(1)
	for range 100 {
		given := make([]bool, n.Given)
		for i := range given {
			given[i] = d.n(2) == 0
		}
		if a, b := one.Step(given), two.Step(given); !slices.Equal(a, b) || !slices.Equal(one.Regs(), two.Regs()) {
			t.Fatalf("of %v: %v, but of what was read %v", given, a, b)
		}
	}
}

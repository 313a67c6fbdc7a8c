package lut_test

import (
	"slices"
	"testing"

	"rungwork/lut"
)

// die draws numbers, the same each time.
type die uint64

func (d *die) n(most int) int {
	*d = *d*6364136223846793005 + 1442695040888963407
	return int(uint64(*d>>33) % uint64(most))
}

// pulse draws bits, so many at most, and two more.
func (d *die) pulse(most int) []bool {
	l := make([]bool, d.n(most+3))
	for i := range l {
		l[i] = d.n(2) == 0
	}
	return l
}

// given draws bits that are given to a net.
func (d *die) given(n *lut.Net) []bool { return d.pulse(n.Given) }

// tables draws a net that may be, of so many of each at most.
func (d *die) tables(given, registers, tables int) *lut.Net {
	n := &lut.Net{Given: 1 + d.n(given), Regs: make(regs, d.n(registers+1)), Luts: make(luts, d.n(tables+1))}
	first := n.Given + len(n.Regs)
	all := first + len(n.Luts)
	for i := range n.Regs {
		n.Regs[i] = lut.Reg{Init: d.n(2) == 0, Next: d.n(all)}
	}
	for i := range n.Luts {
		l := lut.Lut{}
		for range d.n(5) {
			l.Ins = append(l.Ins, d.n(first+i))
		}
		l.Table = d.n(1 << (1 << len(l.Ins)))
		n.Luts[i] = l
	}
	for range d.n(8) {
		n.Outs = append(n.Outs, d.n(all))
	}
	return n
}

// meant is what a signal is meant to be in a cycle, worked out of all that was given up to it, backwards: nothing is kept from cycle to cycle.
func meant(n *lut.Net, given [][]bool, cycle, signal int, known map[[2]int]int) int {
	key := [2]int{cycle, signal}
	if v, ok := known[key]; ok {
		return v
	}
	v, first := 0, n.Given+len(n.Regs)
	switch {
	case signal >= first:
		l, number, worth := n.Luts[signal-first], 0, 1
		for _, in := range l.Ins {
			number += worth * meant(n, given, cycle, in, known)
			worth *= 2
		}
		v = l.Table
		for range number {
			v /= 2
		}
		v %= 2
	case signal >= n.Given && cycle == 0:
		if n.Regs[signal-n.Given].Init {
			v = 1
		}
	case signal >= n.Given:
		v = meant(n, given, cycle-1, n.Regs[signal-n.Given].Next, known)
	case len(given[cycle]) > signal && given[cycle][signal]:
		v = 1
	}
	known[key] = v
	return v
}

// behind is how many tables lie behind one another up to a signal.
func behind(n *lut.Net, signal int, known map[int]int) int {
	first := n.Given + len(n.Regs)
	if signal < first {
		return 0
	}
	if v, ok := known[signal]; ok {
		return v
	}
	most := 0
	for _, in := range n.Luts[signal-first].Ins {
		most = max(most, behind(n, in, known))
	}
	known[signal] = 1 + most
	return 1 + most
}

// Promises 9.1, 9.2: drawn nets are as deep, and let out, and keep, what was meant, cycle by cycle.
func TestDrawn(t *testing.T) {
	d := die(9)
	for range 600 {
		n := d.tables(4, 6, 20)
		right(t, show(n), n, true)
		deep, ways := 0, map[int]int{}
		for i := range n.Luts {
			deep = max(deep, behind(n, n.Given+len(n.Regs)+i, ways))
		}
		if got := n.Depth(); got != deep {
			t.Fatalf("%s: Depth is %d, want %d", show(n), got, deep)
		}
		s, given, known := made(t, n), [][]bool(nil), map[[2]int]int{}
		for cycle := range 10 {
			var held, want []bool
			for i := range n.Regs {
				held = append(held, cycle == 0 && n.Regs[i].Init || cycle > 0 && meant(n, given, cycle-1, n.Regs[i].Next, known) == 1)
			}
			if got := s.Regs(); !slices.Equal(got, held) {
				t.Fatalf("%s, cycle %d, of %v: registers are %v, want %v", show(n), cycle, given, got, held)
			}
			given = append(given, d.given(n))
			for _, o := range n.Outs {
				want = append(want, meant(n, given, cycle, o, known) == 1)
			}
			if got := s.Step(given[cycle]); !slices.Equal(got, want) {
				t.Fatalf("%s, of %v: %v, want %v", show(n), given, got, want)
			}
		}
	}
}

// Promise 9.1, P1: nets of any numbers end, without a panic, and New makes of them what Right says may be.
func TestDrawnWrong(t *testing.T) {
	d, wrong := die(99), 0
	some := func() int { return d.n(7) - 1 }
	for range 5000 {
		n := &lut.Net{Given: some()}
		for range d.n(3) {
			n.Regs = append(n.Regs, lut.Reg{Init: d.n(2) == 0, Next: some()})
		}
		for range d.n(3) {
			l := lut.Lut{Table: some()}
			for range d.n(6) {
				l.Ins = append(l.Ins, some())
			}
			n.Luts = append(n.Luts, l)
		}
		for range d.n(3) {
			n.Outs = append(n.Outs, some())
		}
		want := n.Given >= 0
		all := n.Given + len(n.Regs) + len(n.Luts)
		for _, r := range n.Regs {
			want = want && r.Next >= 0 && r.Next < all
		}
		for i, l := range n.Luts {
			want = want && len(l.Ins) <= 4 && l.Table >= 0 && l.Table < []int{2, 4, 16, 256, 65536, 0}[len(l.Ins)]
			for _, in := range l.Ins {
				want = want && in >= 0 && in < n.Given+len(n.Regs)+i
			}
		}
		for _, o := range n.Outs {
			want = want && o >= 0 && o < all
		}
		right(t, show(n), n, want)
		if !want {
			wrong++
		}
		s, _ := lut.New(n)
		for range 3 {
			s.Step(d.pulse(3))
			s.Put(d.pulse(1))
		}
	}
	if wrong < 500 || wrong > 4500 {
		t.Errorf("%d of 5000 nets are not Right: these are no drawn ones", wrong)
	}
}

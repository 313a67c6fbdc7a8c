package gate_test

import (
	"slices"
	"testing"

	"rungwork/gate"
)

// die draws numbers, the same each time.
type die uint64

func (d *die) n(most int) int {
	*d = *d*6364136223846793005 + 1442695040888963407
	return int(uint64(*d>>33) % uint64(most))
}

// meant is what a node is meant to be in a cycle, worked out of all that was given up to it, backwards: nothing is kept from cycle to cycle.
func meant(n *gate.Net, given [][]bool, cycle, node int, known map[[2]int]int) int {
	key := [2]int{cycle, node}
	if v, ok := known[key]; ok {
		return v
	}
	x, v := n.Nodes[node], 0
	switch x.Op {
	case gate.One:
		v = 1
	case gate.In:
		if g := given[cycle]; len(g) > x.A && g[x.A] {
			v = 1
		}
	case gate.Reg:
		v = x.A
		if cycle > 0 {
			v = meant(n, given, cycle-1, x.Next, known)
		}
	case gate.And:
		v = meant(n, given, cycle, x.A, known) * meant(n, given, cycle, x.B, known)
	case gate.Or:
		v = max(meant(n, given, cycle, x.A, known), meant(n, given, cycle, x.B, known))
	case gate.Xor:
		v = (meant(n, given, cycle, x.A, known) + meant(n, given, cycle, x.B, known)) % 2
	case gate.Not:
		v = 1 - meant(n, given, cycle, x.A, known)
	}
	known[key] = v
	return v
}

// drawNet draws a net that may be.
func drawNet(d *die) *gate.Net {
	n := &gate.Net{Given: 1 + d.n(4)}
	many := 1 + d.n(40)
	for i := range many {
		x := gate.Node{Op: gate.Zero + d.n(8)}
		if i == 0 && x.Op >= gate.And {
			x.Op = gate.In
		}
		switch x.Op {
		case gate.In:
			x.A = d.n(n.Given)
		case gate.Reg:
			x.A, x.Next = d.n(2), d.n(many)
		case gate.And, gate.Or, gate.Xor, gate.Not:
			x.A, x.B = d.n(i), d.n(i)
		}
		n.Nodes = append(n.Nodes, x)
	}
	for range d.n(8) {
		n.Outs = append(n.Outs, d.n(many))
	}
	return n
}

// Promise 6.2: drawn nets let out what was meant, cycle by cycle.
func TestDrawn(t *testing.T) {
	d := die(6)
	for range 400 {
		n := drawNet(&d)
		if !n.Right() {
			t.Fatalf("%+v is not Right", *n)
		}
		s := made(t, n)
		var given [][]bool
		known := map[[2]int]int{}
		for cycle := range 12 {
			g := make([]bool, d.n(n.Given+2))
			for i := range g {
				g[i] = d.n(2) == 0
			}
			given = append(given, g)
			var want []bool
			for _, o := range n.Outs {
				want = append(want, meant(n, given, cycle, o, known) == 1)
			}
			if got := s.Step(g); !slices.Equal(got, want) {
				t.Fatalf("%+v, of %v: %v, want %v", *n, given, got, want)
			}
		}
	}
}

// Promise 6.1, P1: nets of any numbers end, without a panic, and New makes of them what Right says may be.
func TestDrawnWrong(t *testing.T) {
	d := die(66)
	some := func() int { return d.n(7) - 2 }
	wrong := 0
	for range 3000 {
		n := &gate.Net{Given: some()}
		for range d.n(4) {
			n.Nodes = append(n.Nodes, gate.Node{Op: d.n(10), A: some(), B: some(), Next: some()})
		}
		for range d.n(3) {
			n.Outs = append(n.Outs, some())
		}
		n.Gates()
		s, err := gate.New(n)
		if n.Right() != (s != nil) || n.Right() != (err == nil) {
			t.Fatalf("%+v: Right is %v, New tells %v, %v", *n, n.Right(), s != nil, err)
		}
		if s == nil {
			wrong++
		}
		for range 3 {
			s.Step([]bool{true, false, true}[:d.n(4)])
		}
	}
	if wrong == 0 || wrong == 3000 {
		t.Errorf("%d of 3000 nets are not Right: these are no drawn ones", wrong)
	}
}

package clean_test

import (
	"slices"
	"testing"

	"rungwork/api"
	"rungwork/clean"
	"rungwork/gate"
	"rungwork/plain"
)

// die draws numbers, the same each time.
type die uint64

func (d *die) n(most int) int {
	*d = *d*6364136223846793005 + 1442695040888963407
	return int(uint64(*d>>33) % uint64(most))
}

// of draws one of several.
func (d *die) of(l ...string) string { return l[d.n(len(l))] }

// pulses draws bits that are given, cycle by cycle: as many as asked for, or fewer, or more.
func (d *die) pulses(cycles, many int) [][]bool {
	var l [][]bool
	for range cycles {
		g := bits(d.n(1<<20), many)
		if d.n(4) == 0 {
			g = bits(d.n(1<<20), d.n(many+3))
		}
		l = append(l, g)
	}
	return l
}

// net draws a net that may be, of nodes of these ops, and gates; sometimes what it reads lies near.
func (d *die) net(given, most int, first ...int) *gate.Net {
	n := &gate.Net{Given: given}
	many, near := 1+d.n(most), d.n(2) == 0
	for i := range many {
		x := gate.Node{Op: gate.And + d.n(4)}
		if i == 0 || d.n(6) == 0 {
			x.Op = first[d.n(len(first))]
		}
		ahead := func() int {
			if near {
				return max(0, i-1-d.n(5))
			}
			return d.n(i)
		}
		switch x.Op {
		case gate.In:
			x.A = d.n(given)
		case gate.Reg:
			x.A, x.Next = d.n(2), d.n(many)
		case gate.And, gate.Or, gate.Xor:
			x.A, x.B = ahead(), ahead()
		case gate.Not:
			x.A = ahead()
		}
		n.Nodes = append(n.Nodes, x)
	}
	for range 1 + d.n(5) {
		n.Outs = append(n.Outs, d.n(many))
	}
	return n
}

// Promise 8.1: drawn nets that keep nothing let out the same, of all that can be given.
func TestDrawnGates(t *testing.T) {
	d, less := die(81), 0
	for range 6000 {
		n := d.net(1+d.n(5), 40, gate.In, gate.In, gate.In, gate.Zero, gate.One)
		m := cleaned(t, n)
		same(t, n, m, every(n.Given))
		if m.Gates() < n.Gates() {
			less++
		}
	}
	if less < 3000 {
		t.Errorf("only %d of 6000 nets have fewer gates: they are not cleaned", less)
	}
}

// Promise 8.1: drawn nets that keep something let out the same, cycle by cycle.
func TestDrawnKept(t *testing.T) {
	d := die(82)
	for range 4000 {
		n := d.net(1+d.n(4), 50, gate.In, gate.In, gate.Reg, gate.Reg, gate.Reg, gate.Zero, gate.One)
		m := cleaned(t, n)
		for range 2 {
			same(t, n, m, d.pulses(25, n.Given))
		}
	}
}

// Promise 8.1: so do those that are given nothing, but keep something.
func TestDrawnAlone(t *testing.T) {
	d := die(83)
	for range 3000 {
		n := d.net(d.n(3), 30, gate.Reg, gate.Reg, gate.Zero, gate.One)
		same(t, n, cleaned(t, n), make([][]bool, 40))
	}
}

// Promises 8.1, P1: of nets of any numbers those that are Right are cleaned, and of all others nothing comes out.
func TestDrawnWrong(t *testing.T) {
	d, wrong := die(84), 0
	some := func() int { return d.n(7) - 2 }
	for range 5000 {
		n := &gate.Net{Given: some()}
		for range d.n(4) {
			n.Nodes = append(n.Nodes, gate.Node{Op: d.n(10), A: some(), B: some(), Next: some()})
		}
		for range d.n(3) {
			n.Outs = append(n.Outs, some())
		}
		if n.Right() {
			same(t, n, cleaned(t, n), d.pulses(6, n.Given))
			continue
		}
		wrong++
		m, err := clean.Clean(n)
		if e, at := plain.Place(err); e != api.ErrArg || at != -1 || m != nil {
			t.Fatalf("%s: %v, error %d at %d", show(n), m, e, at)
		}
	}
	if wrong == 0 || wrong == 5000 {
		t.Errorf("%d of 5000 nets are not Right: these are no drawn ones", wrong)
	}
}

// Promise 8.2: of a net that has neither In nor Reg no gate is left, and what it lets out is let out.
func TestNothingGiven(t *testing.T) {
	d := die(85)
	for range 2000 {
		n := d.net(d.n(4), 60, gate.Zero, gate.One)
		m := cleaned(t, n)
		if m.Gates() != 0 {
			t.Fatalf("%s: gates are left: %s", show(n), show(m))
		}
		same(t, n, m, [][]bool{nil, {true, true, true, true}, {}})
	}
}

// doubled is a net without Reg beside itself; how its nodes, and Outs, stand is drawn.
func (d *die) doubled(n *gate.Net) *gate.Net {
	two := &gate.Net{Given: n.Given}
	way, of := d.n(4), [2][]int{}
	for len(of[0])+len(of[1]) < 2*len(n.Nodes) {
		copied := way // 0: the first one wholly ahead of the second; 1: the other way round
		switch way {
		case 2: // node by node
			copied = len(two.Nodes) % 2
		case 3:
			copied = d.n(2)
		}
		if len(of[copied]) == len(n.Nodes) {
			copied = 1 - copied
		}
		x := n.Nodes[len(of[copied])]
		switch x.Op {
		case gate.Not:
			x.A = of[copied][x.A]
		case gate.And, gate.Or, gate.Xor:
			x.A, x.B = of[copied][x.A], of[copied][x.B]
			if way == 3 && d.n(2) == 0 {
				x.A, x.B = x.B, x.A
			}
		}
		of[copied] = append(of[copied], len(two.Nodes))
		two.Nodes = append(two.Nodes, x)
	}
	var later []int
	for _, o := range n.Outs {
		two.Outs, later = append(two.Outs, of[0][o]), append(later, of[1][o])
	}
	two.Outs = append(two.Outs, later...)
	return two
}

// beside holds a net beside itself, cleaned, against itself, cleaned.
func beside(t *testing.T, d *die, n *gate.Net) {
	t.Helper()
	alone, two := cleaned(t, n), d.doubled(n)
	m := cleaned(t, two)
	if m.Gates() > alone.Gates() {
		t.Fatalf("%.600s: %d gates, beside itself %d: %.600s", show(n), alone.Gates(), m.Gates(), show(two))
	}
	for _, g := range d.pulses(5, n.Given) {
		want := sim(t, n).Step(g)
		if got := sim(t, m).Step(g); !slices.Equal(got, slices.Concat(want, want)) {
			t.Fatalf("%.600s, beside itself, of %v: %v, want %v twice", show(n), g, got, want)
		}
	}
}

// Promise 8.2: a net without Reg, beside itself, has no more gates left than alone.
func TestBesideItself(t *testing.T) {
	d := die(86)
	for range 4000 {
		beside(t, &d, d.net(1+d.n(5), 60, gate.In, gate.In, gate.In, gate.In, gate.Zero, gate.One))
	}
	for range 300 {
		beside(t, &d, d.net(d.n(3), 30, gate.Zero, gate.One))
	}
	beside(t, &d, &gate.Net{})
	beside(t, &d, &gate.Net{Given: 3, Nodes: nodes{{Op: gate.In}}})
}

// chain is a net of so many nodes, each made of the numbers of those ahead, of which the last one comes out.
func chain(many int, next func(i int) gate.Node) *gate.Net {
	n := &gate.Net{Given: 1, Nodes: nodes{{Op: gate.In}}, Outs: []int{many - 1}}
	for i := 1; i < many; i++ {
		n.Nodes = append(n.Nodes, next(i))
	}
	return n
}

// Promises 8.1, 8.2, P1: nets of as many nodes as there may be are cleaned, however they lie behind one another.
func TestLargest(t *testing.T) {
	d := die(87)
	op := func(i int) int { return gate.And + i%3 }
	for what, next := range map[string]func(i int) gate.Node{
		"Not":            func(i int) gate.Node { return gate.Node{Op: gate.Not, A: i - 1} },
		"with the first": func(i int) gate.Node { return gate.Node{Op: op(i), A: i - 1} },
		"with the last":  func(i int) gate.Node { return gate.Node{Op: op(i), A: i - 1, B: max(0, i-2)} },
		"with any":       func(i int) gate.Node { return gate.Node{Op: op(d.n(3)), A: i - 1, B: d.n(i)} },
		"registers":      func(i int) gate.Node { return gate.Node{Op: gate.Reg, Next: i - 1} },
		"some registers": func(i int) gate.Node {
			return []gate.Node{{Op: gate.Reg, A: d.n(2), Next: d.n(api.MaxNodes)}, {Op: op(d.n(3)), A: i - 1, B: d.n(i)}}[min(1, d.n(8))]
		},
		"known at last": func(i int) gate.Node { return gate.Node{Op: gate.Reg, Next: (i + 1) % api.MaxNodes} },
	} {
		n := chain(api.MaxNodes, next)
		m := cleaned(t, n)
		a, b := sim(t, n), sim(t, m)
		for cycle := range 30 {
			g := bits(d.n(2), 1)
			if want, got := a.Step(g), b.Step(g); !slices.Equal(got, want) {
				t.Fatalf("%s, cycle %d: %v, want %v", what, cycle, got, want)
			}
		}
	}
	half := chain(api.MaxNodes/2, func(i int) gate.Node {
		if i < 12 {
			return gate.Node{Op: gate.In, A: i}
		}
		return gate.Node{Op: op(d.n(3)), A: d.n(i), B: d.n(i)}
	})
	half.Given, half.Outs = 12, []int{len(half.Nodes) - 1, len(half.Nodes) - 2, len(half.Nodes) - 3}
	beside(t, &d, half)
	wide := &gate.Net{Given: api.MaxNodes, Outs: make([]int, api.MaxNodes)}
	for i := range api.MaxNodes {
		wide.Nodes = append(wide.Nodes, gate.Node{Op: gate.In, A: i})
		wide.Outs[i] = api.MaxNodes - 1 - i
	}
	same(t, wide, cleaned(t, wide), d.pulses(3, 20))
}

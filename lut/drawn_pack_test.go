package lut_test

import (
	"slices"
	"testing"

	"rungwork/api"
	"rungwork/gate"
	"rungwork/lut"
	"rungwork/plain"
)

// pulses draws bits that are given, cycle by cycle; some are missing, some too many.
func (d *die) pulses(cycles, many int) [][]bool {
	var l [][]bool
	for range cycles {
		l = append(l, d.pulse(many))
	}
	return l
}

// net draws a net of gates that may be, whose nodes that are no gates are of these ops; gates read any nodes ahead, or such as are near.
func (d *die) net(given, most int, first ...int) *gate.Net {
	n := &gate.Net{Given: given}
	many, near := 1+d.n(most), d.n(2) == 0
	for i := range many {
		x := gate.Node{Op: gate.And + d.n(4)}
		if i == 0 || d.n(6) == 0 {
			x.Op = first[d.n(len(first))]
		}
		ahead := func() int {
			if near {
				return max(0, i-1-d.n(5))
			}
			return d.n(i)
		}
		switch x.Op {
		case gate.In:
			x.A = d.n(given)
		case gate.Reg:
			x.A, x.Next = d.n(2), d.n(many)
		case gate.And, gate.Or, gate.Xor:
			x.A, x.B = ahead(), ahead()
		case gate.Not:
			x.A = ahead()
		}
		n.Nodes = append(n.Nodes, x)
	}
	for range 1 + d.n(5) {
		n.Outs = append(n.Outs, d.n(many))
	}
	return n
}

// Promise 9.3: drawn nets that keep nothing let out the same, of all that can be given.
func TestDrawnGates(t *testing.T) {
	d, gates, tables := die(94), 0, 0
	for range 4000 {
		n := d.net(1+d.n(6), 40, gate.In, gate.In, gate.In, gate.Zero, gate.One)
		m := packed(t, n)
		same(t, n, m, every(n.Given))
		gates, tables = gates+n.Gates(), tables+len(m.Luts)
	}
	if 3*tables > gates {
		t.Errorf("%d tables of %d gates: they are not packed", tables, gates)
	}
}

// Promise 9.3: drawn nets that keep something let out the same, cycle by cycle.
func TestDrawnKept(t *testing.T) {
	d := die(95)
	for range 3000 {
		n := d.net(1+d.n(4), 50, gate.In, gate.In, gate.Reg, gate.Reg, gate.Reg, gate.Zero, gate.One)
		m := packed(t, n)
		for range 2 {
			same(t, n, m, d.pulses(20, n.Given))
		}
	}
}

// Promise 9.3: nets of which every node comes out let out the same; each gate may need a table of its own.
func TestDrawnAllOut(t *testing.T) {
	d := die(96)
	for range 1500 {
		n := d.net(1+d.n(6), 60, gate.In, gate.In, gate.In, gate.In, gate.Reg, gate.Zero, gate.One)
		n.Outs = nil
		for i := range n.Nodes {
			n.Outs = append(n.Outs, len(n.Nodes)-1-i)
		}
		same(t, n, packed(t, n), d.pulses(20, n.Given))
	}
}

// Promises 9.2, 9.3: a packed net that is put where another one of it is goes on as the net of gates does, whatever came ahead.
func TestDrawnPut(t *testing.T) {
	d := die(97)
	for range 1000 {
		n := d.net(1+d.n(4), 40, gate.In, gate.In, gate.Reg, gate.Reg, gate.One)
		m := packed(t, n)
		a, err := gate.New(n)
		if err != nil {
			t.Fatal(err)
		}
		b, c := made(t, m), made(t, m)
		for _, g := range d.pulses(d.n(12), n.Given) {
			a.Step(g)
			b.Step(g)
		}
		for _, g := range d.pulses(d.n(12), n.Given) {
			c.Step(g)
		}
		if err := c.Put(b.Regs()); err != nil {
			t.Fatalf("%s: error %d", gates(n), api.Tell(err))
		}
		for cycle, g := range d.pulses(12, n.Given) {
			want := a.Step(g)
			if got := c.Step(g); !slices.Equal(got, want) {
				t.Fatalf("%s, put, cycle %d: %v, want %v: %s", gates(n), cycle, got, want, show(m))
			}
		}
	}
}

// Promises 9.3, P1: of nets of any numbers those that are Right are packed, and of all others nothing comes out.
func TestDrawnPackWrong(t *testing.T) {
	d, wrong := die(98), 0
	some := func() int { return d.n(7) - 2 }
	for range 5000 {
		n := &gate.Net{Given: some()}
		for range d.n(4) {
			n.Nodes = append(n.Nodes, gate.Node{Op: d.n(10), A: some(), B: some(), Next: some()})
		}
		for range d.n(3) {
			n.Outs = append(n.Outs, some())
		}
		if n.Right() {
			same(t, n, packed(t, n), d.pulses(6, n.Given))
			continue
		}
		wrong++
		m, err := lut.Pack(n)
		if e, at := plain.Place(err); e != api.ErrArg || at != -1 || m != nil {
			t.Fatalf("%s: %v, error %d at %d", gates(n), m, e, at)
		}
	}
	if wrong == 0 || wrong == 5000 {
		t.Errorf("%d of 5000 nets are not Right: these are no drawn ones", wrong)
	}
}

// chain is a net of so many nodes, the first of them given, each other made of the numbers of those ahead; the last one comes out, and some others.
func (d *die) chain(many int, next func(i int) gate.Node) *gate.Net {
	n := &gate.Net{Given: 12, Outs: []int{many - 1}}
	for i := range many {
		x := gate.Node{Op: gate.In, A: i}
		if i >= n.Given {
			x = next(i)
		}
		n.Nodes = append(n.Nodes, x)
	}
	for range 20 {
		n.Outs = append(n.Outs, d.n(many))
	}
	return n
}

// Promises 9.3, P1: nets of as many nodes as there may be are packed, however they lie behind one another.
func TestPackLargest(t *testing.T) {
	d := die(99)
	op := func(i int) int { return gate.And + i%3 }
	for _, next := range []func(i int) gate.Node{
		func(i int) gate.Node { return gate.Node{Op: gate.Not, A: i - 1} },
		func(i int) gate.Node { return gate.Node{Op: op(i), A: i - 1} },
		func(i int) gate.Node { return gate.Node{Op: op(i), A: i - 1, B: i % 12} },
		func(i int) gate.Node { return gate.Node{Op: op(i), A: i - 12, B: i - 7} },
		func(i int) gate.Node { return gate.Node{Op: op(d.n(3)), A: i - 1, B: d.n(i)} },
		func(i int) gate.Node { return gate.Node{Op: op(d.n(3)), A: d.n(i), B: d.n(i)} },
		func(i int) gate.Node { return gate.Node{Op: gate.Xor, A: i - 1, B: i - 2} },
		func(i int) gate.Node { return gate.Node{Op: gate.Reg, Next: i - 1} },
		func(i int) gate.Node {
			return []gate.Node{{Op: gate.Reg, A: d.n(2), Next: d.n(api.MaxNodes)}, {Op: op(d.n(3)), A: i - 1, B: d.n(i)}}[min(1, d.n(8))]
		},
		func(i int) gate.Node {
			return []gate.Node{{Op: gate.Reg, Next: i - 2}, {Op: gate.Xor, A: i - 1, B: i - 2}}[i%2] // as many registers behind one another as tables
		},
		func(i int) gate.Node {
			return []gate.Node{{Op: gate.Zero}, {Op: gate.One}, {Op: op(d.n(3)), A: i - 1, B: i - 1}}[d.n(3)]
		},
	} {
		n := d.chain(api.MaxNodes, next)
		same(t, n, packed(t, n), d.pulses(30, 12))
	}
}

// Promise 9.3, the bounds: as many bits given, and as many nodes out, as there may be.
func TestPackWidest(t *testing.T) {
	d := die(89)
	wide := &gate.Net{Given: api.MaxNodes}
	for i := range api.MaxNodes {
		wide.Nodes = append(wide.Nodes, gate.Node{Op: gate.In, A: i})
		wide.Outs = append(wide.Outs, api.MaxNodes-1-i)
	}
	if m := packed(t, wide); len(m.Luts) != 0 {
		t.Errorf("%d tables of no gates", len(m.Luts))
	}
	same(t, wide, packed(t, wide), d.pulses(3, 20))
	all := d.chain(api.MaxNodes, func(i int) gate.Node {
		if i < 14 {
			return gate.Node{Op: gate.Zero + i - 12}
		}
		return gate.Node{Op: gate.And + d.n(4), A: i - 1, B: d.n(i)}
	})
	all.Outs = nil
	for i := range all.Nodes {
		all.Outs = append(all.Outs, i)
	}
	same(t, all, packed(t, all), d.pulses(5, 12))
}

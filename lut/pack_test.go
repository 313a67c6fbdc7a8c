package lut_test

import (
	"reflect"
	"slices"
	"strconv"
	"testing"

	"rungwork/api"
	"rungwork/gate"
	"rungwork/lut"
	"rungwork/plain"
)

// nodes are nodes of a net of gates, written out.
type nodes = []gate.Node

// gates tells a net of gates.
func gates(n *gate.Net) string {
	text := strconv.Itoa(n.Given) + " given:"
	for _, x := range n.Nodes {
		text += " " + strconv.Itoa(x.Op) + "." + strconv.Itoa(x.A) + "." + strconv.Itoa(x.B) + "." + strconv.Itoa(x.Next)
	}
	text += ", out:"
	for _, o := range n.Outs {
		text += " " + strconv.Itoa(o)
	}
	return text
}

// deep is how many gates of a net lie behind one another, at most.
func deep(n *gate.Net) int {
	up, most := make([]int, len(n.Nodes)), 0
	for i, x := range n.Nodes {
		switch x.Op {
		case gate.And, gate.Or, gate.Xor:
			up[i] = 1 + max(up[x.A], up[x.B])
		case gate.Not:
			up[i] = 1 + up[x.A]
		}
		most = max(most, up[i])
	}
	return most
}

// packed packs a net that may be: what comes out may be, too, has as much of each as it must, and no more tables, nor deeper ones, than is promised.
func packed(t *testing.T, n *gate.Net) *lut.Net {
	t.Helper()
	m, err := lut.Pack(n)
	if err != nil || m == nil {
		t.Fatalf("%.600s: error %d", gates(n), api.Tell(err))
	}
	if !m.Right() {
		t.Fatalf("%.600s: %.600s is not Right", gates(n), show(m))
	}
	kept := 0
	for _, x := range n.Nodes {
		if x.Op == gate.Reg {
			kept++
		}
	}
	if m.Given != n.Given || len(m.Regs) != kept || len(m.Outs) != len(n.Outs) {
		t.Fatalf("%.600s: %d bits given, %d registers, %d out: %.600s", gates(n), m.Given, len(m.Regs), len(m.Outs), show(m))
	}
	if len(m.Luts) > n.Gates()+2 || m.Depth() > deep(n)+1 {
		t.Fatalf("%.600s: %d gates, %d behind one another: %d tables, Depth %d: %.600s", gates(n), n.Gates(), deep(n), len(m.Luts), m.Depth(), show(m))
	}
	return m
}

// same asks a net of gates, and one of tables, for what they let out, cycle by cycle.
func same(t *testing.T, n *gate.Net, m *lut.Net, given [][]bool) {
	t.Helper()
	a, err := gate.New(n)
	if err != nil {
		t.Fatalf("%.600s: error %d", gates(n), api.Tell(err))
	}
	b := made(t, m)
	for cycle, g := range given {
		want := a.Step(g)
		if got := b.Step(g); !slices.Equal(got, want) {
			t.Fatalf("cycle %d, of %v: %v, want %v: %.600s, packed %.600s", cycle, g, got, want, gates(n), show(m))
		}
	}
}

// every is all that can be given to a net that keeps nothing.
func every(many int) [][]bool {
	var l [][]bool
	for n := range 1 << many {
		l = append(l, binary(n, many))
	}
	return l
}

// Promise 9.3: what is not Right is ErrArg, at no place, and there is no net beside it.
func TestPackWrong(t *testing.T) {
	wrong := map[string]*gate.Net{
		"nil":               nil,
		"too much given":    {Given: api.MaxNodes + 1},
		"too many nodes":    {Nodes: slices.Repeat(nodes{{Op: gate.Zero}}, api.MaxNodes+1)},
		"too many out":      {Nodes: nodes{{Op: gate.Zero}}, Outs: make([]int, api.MaxNodes+1)},
		"nothing is out":    {Outs: []int{0}},
		"op 0":              {Nodes: nodes{{}}},
		"op 9":              {Nodes: nodes{{Op: 9}}},
		"nothing is given":  {Nodes: nodes{{Op: gate.In}}},
		"a Reg of 2":        {Nodes: nodes{{Op: gate.Reg, A: 2}}},
		"a Reg of nothing":  {Nodes: nodes{{Op: gate.Reg, Next: 1}}},
		"a Not of itself":   {Nodes: nodes{{Op: gate.One}, {Op: gate.Not, A: 1}}},
		"an Or of later":    {Nodes: nodes{{Op: gate.Or, A: 1, B: 1}, {Op: gate.One}}},
		"a Xor of nothing":  {Nodes: nodes{{Op: gate.One}, {Op: gate.Xor, A: -1}}},
		"wrong, not needed": {Nodes: nodes{{Op: gate.One}, {Op: gate.And, B: 7}}, Outs: []int{0}},
	}
	for _, k := range far {
		s := strconv.Itoa(k)
		wrong["Given "+s] = &gate.Net{Given: k}
		wrong["op "+s] = &gate.Net{Nodes: nodes{{Op: k}}}
		wrong["In "+s] = &gate.Net{Given: 1, Nodes: nodes{{Op: gate.In, A: k}}}
		wrong["Reg "+s] = &gate.Net{Nodes: nodes{{Op: gate.Reg, A: k}}}
		wrong["Next "+s] = &gate.Net{Nodes: nodes{{Op: gate.Reg, Next: k}}}
		wrong["And A "+s] = &gate.Net{Nodes: nodes{{Op: gate.One}, {Op: gate.And, A: k}}}
		wrong["Or B "+s] = &gate.Net{Nodes: nodes{{Op: gate.One}, {Op: gate.Or, B: k}}}
		wrong["Out "+s] = &gate.Net{Nodes: nodes{{Op: gate.One}}, Outs: []int{k}}
	}
	for what, n := range wrong {
		m, err := lut.Pack(n)
		if e, at := plain.Place(err); e != api.ErrArg || at != -1 || m != nil {
			t.Errorf("%s: %v, error %d at %d", what, m, e, at)
		}
	}
}

// Promise 9.3: of nothing there is no table; as much is given.
func TestPackNothing(t *testing.T) {
	for what, n := range map[string]*gate.Net{
		"nothing": {}, "empty lists": {Nodes: nodes{}, Outs: []int{}}, "given alone": {Given: api.MaxNodes},
		"given, and out": {Given: 2, Nodes: nodes{{Op: gate.In, A: 1}, {Op: gate.In}}, Outs: []int{0, 1, 0}},
		"kept, and out":  {Given: 1, Nodes: nodes{{Op: gate.Reg, A: 1, Next: 1}, {Op: gate.In}}, Outs: []int{0, 1}},
	} {
		m := packed(t, n)
		if len(m.Luts) != 0 || m.Depth() != 0 {
			t.Errorf("%s: %s", what, show(m))
		}
		same(t, n, m, append(every(2), every(2)...))
	}
}

// Promise 9.3: what is known, and comes out, or is kept, is two tables at most, however many nodes are so, of no gates, too.
func TestPackKnown(t *testing.T) {
	n := &gate.Net{}
	for range 5 {
		n.Nodes = append(n.Nodes, gate.Node{Op: gate.Zero}, gate.Node{Op: gate.One})
	}
	for i := range 10 {
		n.Nodes = append(n.Nodes, gate.Node{Op: gate.Reg, A: i / 3 % 2, Next: i})
		n.Outs = append(n.Outs, i, 19-i)
	}
	m := packed(t, n)
	if len(m.Luts) != 2 || m.Depth() != 1 {
		t.Errorf("%d tables, Depth %d: %s", len(m.Luts), m.Depth(), show(m))
	}
	same(t, n, m, make([][]bool, 4))
	for i := range n.Nodes[:10] {
		n.Nodes[i].Op = gate.One
	}
	if m = packed(t, n); len(m.Luts) != 1 {
		t.Errorf("one thing that is known: %s", show(m))
	}
	same(t, n, m, make([][]bool, 4))
}

// Promise 9.3: registers are as many as before, in the order of their nodes, each as it was at first, whether anything hangs on them or not.
func TestPackRegs(t *testing.T) {
	n := &gate.Net{Given: 1, Nodes: nodes{
		{Op: gate.Reg, A: 1, Next: 5}, {Op: gate.In}, {Op: gate.Reg, Next: 1}, {Op: gate.Xor, A: 1, B: 2}, {Op: gate.Reg, A: 1, Next: 3}, {Op: gate.Reg, A: 0, Next: 7}, {Op: gate.Reg, Next: 6}, {Op: gate.Not, A: 3},
	}, Outs: []int{4}}
	m := packed(t, n)
	var first []bool
	for _, r := range m.Regs {
		first = append(first, r.Init)
	}
	if !slices.Equal(first, bits("10100")) {
		t.Errorf("at first the registers are %v", first)
	}
	n.Outs = []int{0, 2, 4, 5, 6}
	a, err := gate.New(n)
	if err != nil {
		t.Fatal(err)
	}
	b := made(t, m)
	for cycle, g := range []string{"1", "1", "0", "1", "0", "0", "", "1"} {
		want := a.Step(bits(g))
		if got := b.Regs(); !slices.Equal(got, want) {
			t.Errorf("cycle %d: registers are %v, want %v", cycle, got, want)
		}
		b.Step(bits(g))
	}
}

// Promise 9.3: each gate does what it did, of all that it may read: known, given, turned, twice the same, another gate.
func TestPackTwoGates(t *testing.T) {
	first := nodes{{Op: gate.Zero}, {Op: gate.One}, {Op: gate.In}, {Op: gate.In, A: 1}, {Op: gate.Not, A: 2}, {Op: gate.Not, A: 3}, {Op: gate.In}}
	all := func(many int) nodes {
		var l nodes
		for a := range many {
			l = append(l, gate.Node{Op: gate.Not, A: a})
			for b := range many {
				l = append(l, gate.Node{Op: gate.And, A: a, B: b}, gate.Node{Op: gate.Or, A: a, B: b}, gate.Node{Op: gate.Xor, A: a, B: b})
			}
		}
		return l
	}
	for _, x := range all(len(first)) {
		for _, y := range all(len(first) + 1) {
			n := &gate.Net{Given: 2, Nodes: append(slices.Clone(first), x, y), Outs: []int{7, 8}}
			same(t, n, packed(t, n), every(2))
			n.Outs = []int{8}
			same(t, n, packed(t, n), every(2))
		}
	}
}

// smallNets goes through all nets of so many nodes, of one bit given, of which all come out.
func smallNets(many int, do func(n *gate.Net)) {
	n := &gate.Net{Given: 1, Nodes: make(nodes, many)}
	for i := range many {
		n.Outs = append(n.Outs, i)
	}
	var from func(i int)
	from = func(i int) {
		if i == many {
			do(n)
			return
		}
		l := nodes{{Op: gate.Zero}, {Op: gate.One}, {Op: gate.In}}
		for next := range many {
			l = append(l, gate.Node{Op: gate.Reg, Next: next}, gate.Node{Op: gate.Reg, A: 1, Next: next})
		}
		for a := range i {
			l = append(l, gate.Node{Op: gate.Not, A: a})
			for b := range i {
				l = append(l, gate.Node{Op: gate.And, A: a, B: b}, gate.Node{Op: gate.Or, A: a, B: b}, gate.Node{Op: gate.Xor, A: a, B: b})
			}
		}
		for _, x := range l {
			n.Nodes[i] = x
			from(i + 1)
		}
	}
	from(0)
}

// Promise 9.3: all nets of few nodes let out the same, whatever they keep.
func TestPackSmallNets(t *testing.T) {
	given := [][]bool{{true}, {false}, {}, {true}, {true}, nil, {false}, {true}, {false}, {false}}
	for many := range 5 {
		smallNets(many, func(n *gate.Net) { same(t, n, packed(t, n), given) })
	}
}

// Promise 9.3: gates that have four signals in all, or fewer, become one table; a net is packed, not copied gate by gate.
func TestPackPacks(t *testing.T) {
	in := func(many int) nodes {
		var l nodes
		for i := range many {
			l = append(l, gate.Node{Op: gate.In, A: i})
		}
		return l
	}
	for what, c := range map[string]struct {
		given   int
		gates   nodes
		outs    []int
		most    int
		deepest int
	}{
		"one gate":         {2, nodes{{Op: gate.Or, A: 0, B: 1}}, []int{2}, 1, 1},
		"four in a row":    {4, nodes{{Op: gate.And, A: 0, B: 1}, {Op: gate.Xor, A: 4, B: 2}, {Op: gate.Or, A: 5, B: 3}}, []int{6}, 1, 1},
		"four by twos":     {4, nodes{{Op: gate.And, A: 0, B: 1}, {Op: gate.Not, A: 4}, {Op: gate.And, A: 2, B: 3}, {Op: gate.Xor, A: 5, B: 6}}, []int{7}, 1, 1},
		"five":             {5, nodes{{Op: gate.And, A: 0, B: 1}, {Op: gate.Xor, A: 5, B: 2}, {Op: gate.Or, A: 6, B: 3}, {Op: gate.And, A: 7, B: 4}}, []int{8}, 2, 2},
		"five, and back":   {5, nodes{{Op: gate.And, A: 0, B: 1}, {Op: gate.Xor, A: 5, B: 2}, {Op: gate.Or, A: 6, B: 3}, {Op: gate.And, A: 7, B: 4}, {Op: gate.Not, A: 8}, {Op: gate.Not, A: 9}, {Op: gate.Or, A: 8, B: 10}}, []int{11, 8, 10}, 2, 2},
		"a sum":            {3, nodes{{Op: gate.Xor, A: 0, B: 1}, {Op: gate.Xor, A: 3, B: 2}, {Op: gate.And, A: 0, B: 1}, {Op: gate.And, A: 2, B: 3}, {Op: gate.Or, A: 5, B: 6}}, []int{4, 7}, 2, 1},
		"turned, and back": {1, nodes{{Op: gate.Not, A: 0}, {Op: gate.Not, A: 1}, {Op: gate.Not, A: 2}, {Op: gate.Not, A: 3}}, []int{2, 4}, 0, 0},
		"turned":           {1, nodes{{Op: gate.Not, A: 0}, {Op: gate.Not, A: 1}, {Op: gate.Not, A: 2}}, []int{3}, 1, 1},
		"beside known":     {2, nodes{{Op: gate.One}, {Op: gate.And, A: 0, B: 2}, {Op: gate.Xor, A: 3, B: 2}, {Op: gate.Or, A: 4, B: 1}}, []int{5}, 1, 1},
		"nothing hangs on": {5, nodes{{Op: gate.And, A: 0, B: 1}, {Op: gate.Or, A: 0, B: 5}, {Op: gate.Xor, A: 6, B: 2}, {Op: gate.Or, A: 7, B: 3}, {Op: gate.And, A: 8, B: 4}}, []int{9}, 1, 1},
		"not out":          {2, nodes{{Op: gate.And, A: 0, B: 1}, {Op: gate.Or, A: 0, B: 1}, {Op: gate.Xor, A: 0, B: 2}}, []int{3}, 1, 1},
	} {
		n := &gate.Net{Given: c.given, Nodes: append(in(c.given), c.gates...), Outs: c.outs}
		m := packed(t, n)
		if len(m.Luts) > c.most || m.Depth() > c.deepest {
			t.Errorf("%s: %d tables, Depth %d, want %d and %d: %s", what, len(m.Luts), m.Depth(), c.most, c.deepest, show(m))
		}
		same(t, n, m, every(c.given))
	}
}

// Promise 9.3: what an op does not read may be anything.
func TestPackNotRead(t *testing.T) {
	for _, k := range append([]int{1, 7, 500}, far...) {
		n := &gate.Net{Given: 3, Nodes: nodes{
			{Op: gate.Zero, A: k, B: k, Next: k}, {Op: gate.One, A: k, B: k, Next: k}, {Op: gate.In, A: 2, B: k, Next: k},
			{Op: gate.Reg, A: 1, B: k, Next: 6}, {Op: gate.Not, A: 2, B: k, Next: k}, {Op: gate.And, A: 3, B: 4, Next: k},
			{Op: gate.Xor, A: 5, B: 2, Next: k}, {Op: gate.Or, A: 3, B: 6, Next: -k}, {Op: gate.In, A: 2, B: -k},
		}, Outs: []int{0, 1, 2, 3, 4, 5, 6, 7, 8}}
		same(t, n, packed(t, n), append(every(3), every(3)...))
	}
}

// P4: nothing that is handed in is written into, nor what stands behind it, and what comes out is the caller's; the same is answered again.
func TestPackFresh(t *testing.T) {
	behind := nodes{{Op: gate.In}, {Op: gate.Reg, A: 1, Next: 2}, {Op: gate.And, A: 0, B: 1}, {Op: gate.Not, A: 9}, {Op: 77}}
	outs := []int{2, 1, 9, 9}
	n := &gate.Net{Given: 1, Nodes: behind[:3], Outs: outs[:2]}
	was, wasOuts := slices.Clone(behind), slices.Clone(outs)
	m, again := packed(t, n), packed(t, n)
	if !slices.Equal(behind, was) || !slices.Equal(outs, wasOuts) || n.Given != 1 || len(n.Nodes) != 3 || len(n.Outs) != 2 {
		t.Errorf("what was handed in is %v, %v", behind, outs)
	}
	if !reflect.DeepEqual(m, again) {
		t.Errorf("%s, and again %s", show(m), show(again))
	}
	for i, l := range m.Luts {
		for k := range l.Ins {
			l.Ins[k] = 50
		}
		m.Luts[i].Table = -1
	}
	for i := range m.Regs {
		m.Regs[i] = lut.Reg{Next: -1}
	}
	for i := range m.Outs {
		m.Outs[i] = 50
	}
	if third := packed(t, n); !slices.Equal(behind, was) || !slices.Equal(outs, wasOuts) || !reflect.DeepEqual(again, third) {
		t.Errorf("what came out first is shared: %s, %s", show(again), show(third))
	}
}

// P4: no two lists of a packed net share anything.
func TestPackSharesNothing(t *testing.T) {
	d := die(93)
	for range 200 {
		m := packed(t, d.net(4, 40, gate.In, gate.In, gate.Reg))
		for i, l := range m.Luts {
			keep := show(m)
			was := slices.Clone(l.Ins)
			for k := range l.Ins[:cap(l.Ins)] {
				l.Ins[:cap(l.Ins)][k] = -9
			}
			copy(m.Luts[i].Ins, was)
			if got := show(m); got != keep {
				t.Fatalf("%s is %s when table %d is written into", keep, got, i)
			}
		}
	}
}

package clean_test

import (
	"math"
	"reflect"
	"slices"
	"strconv"
	"testing"

	"rungwork/api"
	"rungwork/clean"
	"rungwork/gate"
	"rungwork/plain"
)

// nodes are nodes of a net, written out.
type nodes = []gate.Node

// far are numbers that are nowhere near a node's.
var far = []int{math.MinInt, math.MinInt32, -1, math.MaxInt32, math.MaxInt}

// cleaned cleans a net that may be: what comes out may be, too, and has as much, and no more, as is promised; cleaned again it has no more.
func cleaned(t *testing.T, n *gate.Net) *gate.Net {
	t.Helper()
	m := fewer(t, n)
	fewer(t, m)
	return m
}

// fewer cleans a net, and looks at what comes out.
func fewer(t *testing.T, n *gate.Net) *gate.Net {
	t.Helper()
	m, err := clean.Clean(n)
	if err != nil || m == nil {
		t.Fatalf("%.600s: error %d", show(n), api.Tell(err))
	}
	if !m.Right() {
		t.Fatalf("%.600s: %.600s is not Right", show(n), show(m))
	}
	if m.Given != n.Given || len(m.Outs) != len(n.Outs) {
		t.Fatalf("%.600s: %d bits given, and %d out, of %d and %d", show(n), m.Given, len(m.Outs), n.Given, len(n.Outs))
	}
	if m.Gates() > n.Gates() || len(m.Nodes) > len(n.Nodes) {
		t.Fatalf("%.600s: %d gates, and %d nodes, of %d and %d", show(n), m.Gates(), len(m.Nodes), n.Gates(), len(n.Nodes))
	}
	return m
}

// show tells a net's nodes, and which come out.
func show(n *gate.Net) string {
	text := strconv.Itoa(n.Given) + " given:"
	for _, x := range n.Nodes {
		text += " " + strconv.Itoa(x.Op) + "." + strconv.Itoa(x.A) + "." + strconv.Itoa(x.B) + "." + strconv.Itoa(x.Next)
	}
	text += ", out:"
	for _, o := range n.Outs {
		text += " " + strconv.Itoa(o)
	}
	return text
}

// sim is a net at first.
func sim(t *testing.T, n *gate.Net) *gate.Sim {
	t.Helper()
	s, err := gate.New(n)
	if err != nil {
		t.Fatalf("%.600s: error %d", show(n), api.Tell(err))
	}
	return s
}

// same asks two nets for what they let out, cycle by cycle.
func same(t *testing.T, n, m *gate.Net, given [][]bool) {
	t.Helper()
	a, b := sim(t, n), sim(t, m)
	for cycle, g := range given {
		want := a.Step(g)
		if got := b.Step(g); !slices.Equal(got, want) {
			t.Fatalf("cycle %d, of %v: %v, want %v: %.600s, cleaned %.600s", cycle, g, got, want, show(n), show(m))
		}
	}
}

// bits are a number's bits, the least first.
func bits(n, many int) []bool {
	l := make([]bool, many)
	for i := range l {
		l[i] = n>>i&1 == 1
	}
	return l
}

// every is all that can be given to a net that keeps nothing.
func every(many int) [][]bool {
	var l [][]bool
	for n := range 1 << many {
		l = append(l, bits(n, many))
	}
	return l
}

// Promise 8.1: what is not Right is ErrArg, at no place, and there is no net beside it.
func TestWrong(t *testing.T) {
	wrong := map[string]*gate.Net{
		"nil":               nil,
		"Given below 0":     {Given: -1},
		"too much given":    {Given: api.MaxNodes + 1},
		"too many nodes":    {Nodes: slices.Repeat(nodes{{Op: gate.Zero}}, api.MaxNodes+1)},
		"too many out":      {Nodes: nodes{{Op: gate.Zero}}, Outs: make([]int, api.MaxNodes+1)},
		"nothing is out":    {Outs: []int{0}},
		"op 0":              {Nodes: nodes{{}}},
		"op 9":              {Nodes: nodes{{Op: 9}}},
		"nothing is given":  {Nodes: nodes{{Op: gate.In}}},
		"a Reg of 2":        {Nodes: nodes{{Op: gate.Reg, A: 2}}},
		"a Reg of nothing":  {Nodes: nodes{{Op: gate.Reg, Next: 1}}},
		"a Not of itself":   {Nodes: nodes{{Op: gate.One}, {Op: gate.Not, A: 1}}},
		"an And of itself":  {Nodes: nodes{{Op: gate.One}, {Op: gate.And, B: 1}}},
		"an Or of later":    {Nodes: nodes{{Op: gate.Or, A: 1, B: 1}, {Op: gate.One}}},
		"a Xor of nothing":  {Nodes: nodes{{Op: gate.One}, {Op: gate.Xor, A: -1}}},
		"wrong, not needed": {Nodes: nodes{{Op: gate.One}, {Op: gate.And, B: 7}}, Outs: []int{0}},
	}
	for _, k := range far {
		s := strconv.Itoa(k)
		wrong["Given "+s] = &gate.Net{Given: k}
		wrong["op "+s] = &gate.Net{Nodes: nodes{{Op: k}}}
		wrong["In "+s] = &gate.Net{Given: 1, Nodes: nodes{{Op: gate.In, A: k}}}
		wrong["Reg "+s] = &gate.Net{Nodes: nodes{{Op: gate.Reg, A: k}}}
		wrong["Next "+s] = &gate.Net{Nodes: nodes{{Op: gate.Reg, Next: k}}}
		wrong["Not "+s] = &gate.Net{Nodes: nodes{{Op: gate.One}, {Op: gate.Not, A: k}}}
		wrong["And A "+s] = &gate.Net{Nodes: nodes{{Op: gate.One}, {Op: gate.And, A: k}}}
		wrong["Or B "+s] = &gate.Net{Nodes: nodes{{Op: gate.One}, {Op: gate.Or, B: k}}}
		wrong["Out "+s] = &gate.Net{Nodes: nodes{{Op: gate.One}}, Outs: []int{k}}
	}
	for what, n := range wrong {
		m, err := clean.Clean(n)
		if e, at := plain.Place(err); e != api.ErrArg || at != -1 || m != nil {
			t.Errorf("%s: %v, error %d at %d", what, m, e, at)
		}
	}
}

// Promise 8.1: nothing is left of nothing, nor of what nothing that comes out hangs on; as much is given.
func TestNothing(t *testing.T) {
	for what, n := range map[string]*gate.Net{
		"nothing": {}, "empty lists": {Nodes: nodes{}, Outs: []int{}}, "given alone": {Given: 5},
		"not out":       {Given: 2, Nodes: nodes{{Op: gate.In}, {Op: gate.In, A: 1}, {Op: gate.Xor, A: 0, B: 1}, {Op: gate.Not, A: 2}}},
		"kept, not out": {Given: 1, Nodes: nodes{{Op: gate.In}, {Op: gate.Reg, Next: 2}, {Op: gate.Xor, A: 0, B: 1}}},
	} {
		if m := cleaned(t, n); len(m.Nodes) != 0 {
			t.Errorf("%s: %s", what, show(m))
		}
	}
}

// Promise 8.1: as many come out as before, in their order, one twice, too.
func TestOuts(t *testing.T) {
	n := &gate.Net{Given: 2, Nodes: nodes{{Op: gate.In, A: 1}, {Op: gate.In}, {Op: gate.One}, {Op: gate.And, A: 0, B: 1}, {Op: gate.Zero}, {Op: gate.Reg, A: 1, Next: 0}}, Outs: []int{5, 3, 1, 1, 4, 0, 2, 3, 5}}
	m := cleaned(t, n)
	same(t, n, m, slices.Concat(every(2), every(2)))
	s := sim(t, m)
	for i, want := range [][]bool{{true, false, true, true, false, false, true, false, true}, {false, true, true, true, false, true, true, true, false}, {true, false, false, false, false, false, true, false, true}} {
		if got := s.Step(bits([]int{1, 3, 0}[i], 2)); !slices.Equal(got, want) {
			t.Errorf("cycle %d: %v, want %v", i, got, want)
		}
	}
}

// Promise 8.1: each gate does what it did, of all that it may read: known, given, turned, twice the same, another gate.
func TestTwoGates(t *testing.T) {
	first := nodes{{Op: gate.Zero}, {Op: gate.One}, {Op: gate.In}, {Op: gate.In, A: 1}, {Op: gate.Not, A: 2}, {Op: gate.Not, A: 3}}
	gates := func(many int) nodes {
		var l nodes
		for a := range many {
			l = append(l, gate.Node{Op: gate.Not, A: a})
			for b := range many {
				l = append(l, gate.Node{Op: gate.And, A: a, B: b}, gate.Node{Op: gate.Or, A: a, B: b}, gate.Node{Op: gate.Xor, A: a, B: b})
			}
		}
		return l
	}
	for _, x := range gates(len(first)) {
		for _, y := range gates(len(first) + 1) {
			n := &gate.Net{Given: 2, Nodes: append(slices.Clone(first), x, y), Outs: []int{6, 7}}
			same(t, n, cleaned(t, n), every(2))
			n.Outs = []int{7}
			same(t, n, cleaned(t, n), every(2))
		}
	}
}

// smallNets goes through all nets of so many nodes, of one bit given, of which all come out.
func smallNets(many int, do func(n *gate.Net)) {
	n := &gate.Net{Given: 1, Nodes: make(nodes, many)}
	for i := range many {
		n.Outs = append(n.Outs, i)
	}
	var from func(i int)
	from = func(i int) {
		if i == many {
			do(n)
			return
		}
		l := nodes{{Op: gate.Zero}, {Op: gate.One}, {Op: gate.In}}
		for next := range many {
			l = append(l, gate.Node{Op: gate.Reg, Next: next}, gate.Node{Op: gate.Reg, A: 1, Next: next})
		}
		for a := range i {
			l = append(l, gate.Node{Op: gate.Not, A: a})
			for b := range i {
				l = append(l, gate.Node{Op: gate.And, A: a, B: b}, gate.Node{Op: gate.Or, A: a, B: b}, gate.Node{Op: gate.Xor, A: a, B: b})
			}
		}
		for _, x := range l {
			n.Nodes[i] = x
			from(i + 1)
		}
	}
	from(0)
}

// Promise 8.1: all nets of few nodes let out the same, whatever they keep.
func TestSmallNets(t *testing.T) {
	given := [][]bool{{true}, {false}, {}, {true}, {true}, nil, {false}, {true}, {true}, {true}, {false}, {false}}
	for many := range 5 {
		smallNets(many, func(n *gate.Net) {
			m := fewer(t, n)
			same(t, n, m, given)
			same(t, n, m, [][]bool{{false}, {false}, {false}, {true}, {false}})
		})
	}
}

// Promise 8.1: what is kept changes late, too: a net of registers behind one another, of which the last one changes after so many cycles.
func TestLateChange(t *testing.T) {
	for _, back := range []bool{false, true} {
		for many := 1; many < 40; many++ {
			n := &gate.Net{Given: 1, Nodes: nodes{{Op: gate.One}}}
			for i := range many {
				x := gate.Node{Op: gate.Reg, Next: i}
				if back {
					x.Next = (i + 2) % (many + 1)
				}
				n.Nodes = append(n.Nodes, x)
			}
			last := many
			if back {
				last = 1
			}
			n.Nodes = append(n.Nodes, gate.Node{Op: gate.Not, A: last})
			n.Outs = []int{last, many + 1}
			s := sim(t, cleaned(t, n))
			for cycle := range many + 5 {
				if got := s.Step(nil); got[0] != (cycle >= many) || got[1] == got[0] {
					t.Fatalf("%d registers, cycle %d: %v", many, cycle, got)
				}
			}
		}
	}
}

// Promise 8.1: what is kept, but stays what it is at first, whatever is given, is known, and needs no gate; what does not stay does.
func TestKept(t *testing.T) {
	in := gate.Node{Op: gate.In}
	for what, c := range map[string]struct {
		nodes       nodes
		gates, many int
	}{
		"stays 0":             {nodes{in, {Op: gate.Reg, Next: 1}, {Op: gate.And, A: 0, B: 1}}, 0, 1},
		"stays 1":             {nodes{in, {Op: gate.Reg, A: 1, Next: 1}, {Op: gate.And, A: 0, B: 1}}, 0, 1},
		"only falls":          {nodes{in, {Op: gate.Reg, Next: 2}, {Op: gate.And, A: 0, B: 1}}, 0, 1},
		"falls":               {nodes{in, {Op: gate.Reg, A: 1, Next: 2}, {Op: gate.And, A: 0, B: 1}}, 1, 3},
		"only rises":          {nodes{in, {Op: gate.Reg, A: 1, Next: 2}, {Op: gate.Or, A: 0, B: 1}}, 0, 1},
		"round, the same":     {nodes{in, {Op: gate.Reg, A: 1, Next: 2}, {Op: gate.Reg, A: 1, Next: 1}, {Op: gate.Xor, A: 0, B: 1}}, 1, 2},
		"round, not the same": {nodes{in, {Op: gate.Reg, Next: 2}, {Op: gate.Reg, A: 1, Next: 1}, {Op: gate.Xor, A: 0, B: 1}}, 1, 4},
		"turns":               {nodes{in, {Op: gate.Reg, Next: 2}, {Op: gate.Not, A: 1}, {Op: gate.And, A: 0, B: 1}}, 2, 4},
		"becomes 1":           {nodes{in, {Op: gate.Reg, Next: 2}, {Op: gate.One}, {Op: gate.And, A: 0, B: 1}}, 1, 4},
		"two that are alike":  {nodes{in, {Op: gate.Reg, Next: 0}, {Op: gate.Reg, Next: 0}, {Op: gate.Xor, A: 1, B: 2}}, 0, 1},
		"two that differ":     {nodes{in, {Op: gate.Reg, Next: 0}, {Op: gate.Reg, A: 1, Next: 0}, {Op: gate.Xor, A: 1, B: 2}}, 1, 4},
	} {
		n := &gate.Net{Given: 1, Nodes: c.nodes, Outs: []int{len(c.nodes) - 1}}
		m := cleaned(t, n)
		if m.Gates() != c.gates || len(m.Nodes) != c.many {
			t.Errorf("%s: %d gates, and %d nodes, want %d and %d: %s", what, m.Gates(), len(m.Nodes), c.gates, c.many, show(m))
		}
		same(t, n, m, [][]bool{{true}, {true}, {false}, {true}, {true}, {false}, {false}, {true}})
	}
}

// Promise 8.1: gates that one of two makes needless are left out.
func TestNeedless(t *testing.T) {
	a, b, not := gate.Node{Op: gate.In}, gate.Node{Op: gate.In, A: 1}, gate.Node{Op: gate.Not}
	for what, c := range map[string]struct {
		gates nodes
		want  int
	}{
		"a and (a or b)":            {nodes{{Op: gate.Or, A: 0, B: 1}, {Op: gate.And, A: 0, B: 3}}, 0},
		"a or (a and b)":            {nodes{{Op: gate.And, A: 0, B: 1}, {Op: gate.Or, A: 3, B: 0}}, 0},
		"a and (b and a)":           {nodes{{Op: gate.And, A: 1, B: 0}, {Op: gate.And, A: 0, B: 3}}, 1},
		"a or (a xor b)":            {nodes{{Op: gate.Xor, A: 0, B: 1}, {Op: gate.Or, A: 0, B: 3}}, 1},
		"not a and (a or b)":        {nodes{{Op: gate.Or, A: 0, B: 1}, {Op: gate.And, A: 2, B: 3}}, 2},
		"not a and (a and b)":       {nodes{{Op: gate.And, A: 0, B: 1}, {Op: gate.And, A: 2, B: 3}}, 0},
		"a or not (a and b)":        {nodes{{Op: gate.And, A: 0, B: 1}, {Op: gate.Not, A: 3}, {Op: gate.Or, A: 0, B: 4}}, 0},
		"not not b":                 {nodes{{Op: gate.Not, A: 1}, {Op: gate.Not, A: 3}}, 0},
		"not a xor not b":           {nodes{{Op: gate.Not, A: 1}, {Op: gate.Xor, A: 2, B: 3}}, 1},
		"(a and b) xor (b and a)":   {nodes{{Op: gate.And, A: 0, B: 1}, {Op: gate.And, A: 1, B: 0}, {Op: gate.Xor, A: 3, B: 4}}, 0},
		"(a xor b) and not both so": {nodes{{Op: gate.Xor, A: 0, B: 1}, {Op: gate.Xor, A: 1, B: 0}, {Op: gate.Not, A: 4}, {Op: gate.And, A: 3, B: 5}}, 0},
	} {
		n := &gate.Net{Given: 2, Nodes: append(nodes{a, b, not}, c.gates...)}
		n.Outs = []int{len(n.Nodes) - 1}
		m := cleaned(t, n)
		if m.Gates() > c.want {
			t.Errorf("%s: %d gates, want %d: %s", what, m.Gates(), c.want, show(m))
		}
		same(t, n, m, every(2))
	}
}

// Promise 8.1, P2: what an op does not read may be anything, and is nothing in what comes out.
func TestNotRead(t *testing.T) {
	for _, k := range append([]int{1, 7, 500}, far...) {
		n := &gate.Net{Given: 3, Nodes: nodes{
			{Op: gate.Zero, A: k, B: k, Next: k}, {Op: gate.One, A: k, B: k, Next: k}, {Op: gate.In, A: 2, B: k, Next: k},
			{Op: gate.Reg, A: 1, B: k, Next: 6}, {Op: gate.Not, A: 2, B: k, Next: k}, {Op: gate.And, A: 3, B: 4, Next: k},
			{Op: gate.Xor, A: 5, B: 2, Next: k}, {Op: gate.Or, A: 3, B: 6, Next: -k}, {Op: gate.In, A: 2, B: -k},
		}, Outs: []int{0, 1, 2, 3, 4, 5, 6, 7, 8}}
		m := cleaned(t, n)
		same(t, n, m, slices.Concat(every(3), every(3)))
		for i, x := range m.Nodes {
			want := x
			switch x.Op {
			case gate.Zero, gate.One:
				want = gate.Node{Op: x.Op}
			case gate.In, gate.Not:
				want = gate.Node{Op: x.Op, A: x.A}
			case gate.Reg:
				want.B = 0
			default:
				want.Next = 0
			}
			if x != want {
				t.Errorf("node %d is %v, want %v", i, x, want)
			}
		}
	}
}

// Promise P4: nothing that is handed in is written into, nor what stands behind it, and what comes out is the caller's; the same is answered again.
func TestFresh(t *testing.T) {
	behind := nodes{{Op: gate.In}, {Op: gate.Reg, A: 1, Next: 2}, {Op: gate.And, A: 0, B: 1}, {Op: gate.Not, A: 9}, {Op: 77}}
	outs := []int{2, 1, 9, 9}
	n := &gate.Net{Given: 1, Nodes: behind[:3], Outs: outs[:2]}
	was, wasOuts := slices.Clone(behind), slices.Clone(outs)
	m, _ := clean.Clean(n)
	again, _ := clean.Clean(n)
	if !slices.Equal(behind, was) || !slices.Equal(outs, wasOuts) || n.Given != 1 || len(n.Nodes) != 3 || len(n.Outs) != 2 {
		t.Errorf("what was handed in is %v, %v", behind, outs)
	}
	if !reflect.DeepEqual(m, again) {
		t.Errorf("%s, and again %s", show(m), show(again))
	}
	for i := range m.Nodes {
		m.Nodes[i] = gate.Node{}
	}
	for i := range m.Outs {
		m.Outs[i] = 50
	}
	m.Given = 9
	third, _ := clean.Clean(n)
	if !slices.Equal(behind, was) || !slices.Equal(outs, wasOuts) || !reflect.DeepEqual(again, third) {
		t.Errorf("what came out first is shared: %s, %s", show(again), show(third))
	}
	cleaner, _ := clean.Clean(third)
	for i := range third.Nodes {
		third.Nodes[i].Op = 0
	}
	if !cleaner.Right() {
		t.Errorf("what came out of a cleaned net is shared with it: %s", show(cleaner))
	}
}

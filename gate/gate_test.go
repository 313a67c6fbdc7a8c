package gate_test

import (
	"math"
	"reflect"
	"slices"
	"strconv"
	"testing"

	"rungwork/api"
	"rungwork/gate"
	"rungwork/plain"
)

// far are numbers that are nowhere near a node's.
var far = []int{math.MinInt, math.MinInt32, -1, math.MaxInt32, math.MaxInt}

// nodes are nodes of a net, written out.
type nodes = []gate.Node

// right asks whether a net may be, and whether New says the same: a Sim, or ErrArg at no place.
func right(t *testing.T, what string, n *gate.Net, want bool) {
	t.Helper()
	if got := n.Right(); got != want {
		t.Errorf("%s: Right is %v", what, got)
	}
	s, err := gate.New(n)
	wanted := api.ErrArg
	if want {
		wanted = api.OK
	}
	if e, at := plain.Place(err); e != wanted || at != -1 || (s != nil) != want {
		t.Errorf("%s: New tells %v, error %d at %d, want error %d", what, s != nil, e, at, wanted)
	}
}

// made is a net at first that may be.
func made(t *testing.T, n *gate.Net) *gate.Sim {
	t.Helper()
	s, err := gate.New(n)
	if err != nil || s == nil {
		t.Fatalf("%+v: error %d", *n, api.Tell(err))
	}
	return s
}

// bits are what a text of 0 and 1 tells.
func bits(text string) []bool {
	var l []bool
	for _, c := range text {
		l = append(l, c == '1')
	}
	return l
}

// cycles asks a net for what it lets out, cycle by cycle: texts by twos, what is given and what comes out.
func cycles(t *testing.T, what string, n *gate.Net, l ...string) {
	t.Helper()
	s := made(t, n)
	for i := 0; i+1 < len(l); i += 2 {
		if got := s.Step(bits(l[i])); !slices.Equal(got, bits(l[i+1])) {
			t.Errorf("%s, cycle %d: of %q: %v, want %q", what, i/2, l[i], got, l[i+1])
		}
	}
}

// Promise 6.1: the ops are numbers from 1 on, in this order.
func TestOps(t *testing.T) {
	ops := []int{gate.Zero, gate.One, gate.In, gate.Reg, gate.And, gate.Or, gate.Xor, gate.Not}
	if want := []int{1, 2, 3, 4, 5, 6, 7, 8}; !slices.Equal(ops, want) {
		t.Errorf("ops are %v", ops)
	}
}

// Promise 6.1: a node is one of the ops, and of no others.
func TestRightOps(t *testing.T) {
	for op := -3; op < 20; op++ {
		n := &gate.Net{Given: 1, Nodes: nodes{{Op: gate.One}, {Op: op}}}
		right(t, "op "+strconv.Itoa(op), n, op >= gate.Zero && op <= gate.Not)
	}
	for _, op := range far {
		right(t, "op "+strconv.Itoa(op), &gate.Net{Nodes: nodes{{Op: op}}}, false)
	}
}

// Promise 6.1: nothing, and no net at all.
func TestRightOfNothing(t *testing.T) {
	right(t, "nil", nil, false)
	right(t, "nothing", &gate.Net{}, true)
	right(t, "empty", &gate.Net{Nodes: nodes{}, Outs: []int{}}, true)
	if got := (*gate.Net)(nil).Gates(); got != 0 {
		t.Errorf("nil has %d gates", got)
	}
}

// Promise 6.1: an In's A is one of the bits that are given.
func TestRightIn(t *testing.T) {
	for given := range 4 {
		for a := -2; a < 6; a++ {
			n := &gate.Net{Given: given, Nodes: nodes{{Op: gate.In, A: a}}}
			right(t, "In "+strconv.Itoa(a)+" of "+strconv.Itoa(given), n, a >= 0 && a < given)
		}
	}
	for _, a := range far {
		right(t, "In "+strconv.Itoa(a), &gate.Net{Given: 3, Nodes: nodes{{Op: gate.In, A: a}}}, false)
	}
}

// Promise 6.1: a Reg's A is 0 or 1, its Next any node, ahead, behind or itself.
func TestRightReg(t *testing.T) {
	reg := func(a, next int) *gate.Net {
		return &gate.Net{Nodes: nodes{{Op: gate.Zero}, {Op: gate.Reg, A: a, Next: next}, {Op: gate.One}}}
	}
	for a := -2; a < 5; a++ {
		right(t, "Reg "+strconv.Itoa(a), reg(a, 0), a == 0 || a == 1)
	}
	for next := -2; next < 6; next++ {
		right(t, "Next "+strconv.Itoa(next), reg(1, next), next >= 0 && next < 3)
	}
	for _, k := range far {
		right(t, "Reg "+strconv.Itoa(k), reg(k, 0), false)
		right(t, "Next "+strconv.Itoa(k), reg(0, k), false)
	}
}

// Promise 6.1: a gate reads nodes ahead of it, not itself, and none behind.
func TestRightGates(t *testing.T) {
	for _, op := range []int{gate.And, gate.Or, gate.Xor, gate.Not} {
		of := func(a, b int) *gate.Net {
			return &gate.Net{Nodes: nodes{{Op: gate.Zero}, {Op: gate.One}, {Op: op, A: a, B: b}, {Op: gate.One}}}
		}
		for k := -2; k < 6; k++ {
			what := "op " + strconv.Itoa(op) + " of " + strconv.Itoa(k)
			right(t, what, of(k, 1), k >= 0 && k < 2)
			right(t, what+", behind", of(1, k), op == gate.Not || k >= 0 && k < 2)
		}
		for _, k := range far {
			right(t, "far A", of(k, 0), false)
			right(t, "far B", of(0, k), op == gate.Not)
		}
		right(t, "none ahead", &gate.Net{Nodes: nodes{{Op: op}}}, false)
	}
}

// Promise 6.1: what an op does not read may be anything.
func TestRightReadsNoMore(t *testing.T) {
	for _, k := range far {
		right(t, "unread "+strconv.Itoa(k), &gate.Net{Given: 1, Nodes: nodes{
			{Op: gate.Zero, A: k, B: k, Next: k},
			{Op: gate.One, A: k, B: k, Next: k},
			{Op: gate.In, B: k, Next: k},
			{Op: gate.Reg, B: k},
			{Op: gate.And, Next: k},
			{Op: gate.Or, Next: k},
			{Op: gate.Xor, Next: k},
			{Op: gate.Not, B: k, Next: k},
		}}, true)
	}
}

// Promise 6.1: each Out is a node's number.
func TestRightOuts(t *testing.T) {
	for many := range 3 {
		n := &gate.Net{Nodes: make(nodes, many)}
		for i := range n.Nodes {
			n.Nodes[i].Op = gate.One
		}
		for _, o := range append([]int{0, 1, 2, 3}, far...) {
			n.Outs = []int{o}
			right(t, "Out "+strconv.Itoa(o)+" of "+strconv.Itoa(many), n, o >= 0 && o < many)
		}
	}
	right(t, "Outs, the last wrong", &gate.Net{Nodes: nodes{{Op: gate.One}}, Outs: []int{0, 0, 1}}, false)
	right(t, "Outs, alike", &gate.Net{Nodes: nodes{{Op: gate.One}}, Outs: []int{0, 0, 0}}, true)
}

// Promise 6.1: one node that is wrong is enough, wherever it stands.
func TestRightOneWrong(t *testing.T) {
	for i := range 8 {
		n := all()
		right(t, "each op", n, true)
		n.Nodes[i].Op = 9
		right(t, "op 9 at "+strconv.Itoa(i), n, false)
	}
}

// Promise 6.1: how many there may be: MaxNodes, and no more.
func TestRightHowMany(t *testing.T) {
	for _, c := range []struct {
		many int
		want bool
	}{{api.MaxNodes - 1, true}, {api.MaxNodes, true}, {api.MaxNodes + 1, false}} {
		what := strconv.Itoa(c.many)
		long := make(nodes, c.many)
		for i := range long {
			long[i].Op = gate.One
		}
		right(t, what+" nodes", &gate.Net{Nodes: long}, c.want)
		right(t, what+" given", &gate.Net{Given: c.many}, c.want)
		right(t, what+" outs", &gate.Net{Nodes: nodes{{Op: gate.Zero}}, Outs: make([]int, c.many)}, c.want)
	}
	for _, k := range far {
		right(t, "given "+strconv.Itoa(k), &gate.Net{Given: k}, false)
	}
}

// all is a net with each op once: two bits given, all of them out.
func all() *gate.Net {
	return &gate.Net{Given: 2, Nodes: nodes{
		{Op: gate.Zero},
		{Op: gate.One},
		{Op: gate.In, A: 1},
		{Op: gate.Reg, A: 1, Next: 7},
		{Op: gate.And, A: 2, B: 3},
		{Op: gate.Or, A: 2, B: 3},
		{Op: gate.Xor, A: 2, B: 3},
		{Op: gate.Not, A: 2},
	}, Outs: []int{0, 1, 2, 3, 4, 5, 6, 7}}
}

// Promise 6.1: Gates are And, Or, Xor, Not, and nothing else; of what is not Right, too.
func TestGates(t *testing.T) {
	if got := all().Gates(); got != 4 {
		t.Errorf("each op once has %d gates", got)
	}
	for op := -2; op < 12; op++ {
		want := 0
		if op >= gate.And && op <= gate.Not {
			want = 3
		}
		n := &gate.Net{Nodes: nodes{{Op: op, A: 7}, {Op: op, A: -1}, {Op: gate.One}, {Op: op}}}
		if got := n.Gates(); got != want {
			t.Errorf("three of op %d have %d gates, want %d", op, got, want)
		}
	}
	if got := (&gate.Net{Given: 9, Outs: []int{1}}).Gates(); got != 0 {
		t.Errorf("no nodes have %d gates", got)
	}
}

// Promise 6.2: what each op is, of all that may be ahead of it.
func TestStepOps(t *testing.T) {
	n := &gate.Net{Given: 2, Nodes: nodes{
		{Op: gate.In}, {Op: gate.In, A: 1}, {Op: gate.Zero}, {Op: gate.One},
		{Op: gate.And, A: 0, B: 1}, {Op: gate.Or, A: 0, B: 1}, {Op: gate.Xor, A: 0, B: 1}, {Op: gate.Not, A: 0}, {Op: gate.Not, A: 1, B: 3},
	}, Outs: []int{0, 1, 2, 3, 4, 5, 6, 7, 8}}
	cycles(t, "ops", n,
		"00", "0001"+"00011",
		"10", "1001"+"01101",
		"01", "0101"+"01110",
		"11", "1101"+"11000",
		"00", "0001"+"00011")
}

// Promise 6.2: a gate may read one node twice.
func TestStepOneTwice(t *testing.T) {
	n := &gate.Net{Given: 1, Nodes: nodes{
		{Op: gate.In}, {Op: gate.And}, {Op: gate.Or}, {Op: gate.Xor}, {Op: gate.Not},
	}, Outs: []int{1, 2, 3, 4}}
	cycles(t, "one twice", n, "0", "0001", "1", "1100")
}

// Promise 6.2: bits that are missing are false, those beyond Given are not looked at.
func TestStepGiven(t *testing.T) {
	n := &gate.Net{Given: 3, Nodes: nodes{{Op: gate.In, A: 2}, {Op: gate.In, A: 0}, {Op: gate.In, A: 2}, {Op: gate.In, A: 1}}, Outs: []int{0, 1, 2, 3}}
	cycles(t, "given", n,
		"", "0000",
		"1", "0100",
		"11", "0101",
		"111", "1111",
		"0011", "1010",
		"1001111", "0100",
		"", "0000")
}

// Promise 6.2, P4: what stands behind a list's length is not given.
func TestStepBehindLength(t *testing.T) {
	n := &gate.Net{Given: 2, Nodes: nodes{{Op: gate.In}, {Op: gate.In, A: 1}}, Outs: []int{0, 1}}
	if got := made(t, n).Step([]bool{true, true}[:1]); !slices.Equal(got, []bool{true, false}) {
		t.Errorf("behind the length: %v", got)
	}
}

// Promise 6.2: nothing is kept of what was given but in registers.
func TestStepAsksAnew(t *testing.T) {
	n := &gate.Net{Given: 1, Nodes: nodes{{Op: gate.In}, {Op: gate.Not}}, Outs: []int{0, 1}}
	cycles(t, "anew", n, "1", "10", "", "01", "1", "10", "0", "01")
}

// Promise 6.2: a Reg is A at first, then what its Next was in the cycle ahead.
func TestStepReg(t *testing.T) {
	n := &gate.Net{Given: 1, Nodes: nodes{
		{Op: gate.Reg, A: 0, Next: 2},
		{Op: gate.Reg, A: 1, Next: 2},
		{Op: gate.In},
	}, Outs: []int{0, 1, 2}}
	cycles(t, "one cycle behind", n, "1", "011", "0", "110", "0", "000", "1", "001", "", "110")
}

// Promise 6.2: registers that read each other, or themselves, move all at once.
func TestStepRegsAtOnce(t *testing.T) {
	ring := &gate.Net{Nodes: nodes{
		{Op: gate.Reg, A: 1, Next: 2}, {Op: gate.Reg, Next: 0}, {Op: gate.Reg, Next: 1},
	}, Outs: []int{0, 1, 2}}
	cycles(t, "ring", ring, "", "100", "", "010", "", "001", "", "100", "", "010")
	back := &gate.Net{Nodes: nodes{
		{Op: gate.Reg, A: 1, Next: 1}, {Op: gate.Reg, Next: 2}, {Op: gate.Reg, Next: 0},
	}, Outs: []int{0, 1, 2}}
	cycles(t, "ring, the other way", back, "", "100", "", "001", "", "010", "", "100")
	self := &gate.Net{Nodes: nodes{{Op: gate.Reg, A: 1}, {Op: gate.Reg, Next: 1}}, Outs: []int{0, 1}}
	cycles(t, "themselves", self, "", "10", "", "10", "", "10")
	turn := &gate.Net{Nodes: nodes{{Op: gate.Reg, Next: 1}, {Op: gate.Not}}, Outs: []int{0, 1}}
	cycles(t, "turned", turn, "", "01", "", "10", "", "01", "", "10")
}

// Promise 6.2: registers that do not come out go on, too; four of them count.
func TestStepCounts(t *testing.T) {
	n := &gate.Net{}
	carry := 0
	n.Nodes = append(n.Nodes, gate.Node{Op: gate.One})
	for range 4 {
		reg := len(n.Nodes)
		n.Nodes = append(n.Nodes,
			gate.Node{Op: gate.Reg, Next: reg + 1},
			gate.Node{Op: gate.Xor, A: reg, B: carry},
			gate.Node{Op: gate.And, A: reg, B: carry})
		carry = reg + 2
	}
	n.Outs = []int{carry}
	s := made(t, n)
	for i := range 100 {
		if got := s.Step(nil); len(got) != 1 || got[0] != (i%16 == 15) {
			t.Fatalf("cycle %d: %v", i, got)
		}
	}
}

// Promise 6.2: what comes out is in the order of Outs, a node as often as it is named, an empty list of none.
func TestStepOuts(t *testing.T) {
	n := all()
	n.Outs = []int{7, 2, 2, 1, 0, 7}
	cycles(t, "order", n, "01", "011100", "10", "100101")
	if got := made(t, &gate.Net{Nodes: nodes{{Op: gate.One}}}).Step(nil); len(got) != 0 {
		t.Errorf("no Outs: %v", got)
	}
	if got := made(t, &gate.Net{}).Step([]bool{true}); len(got) != 0 {
		t.Errorf("nothing: %v", got)
	}
}

// Promise 6.2, the bounds: a net as great as may be, each node behind the one ahead.
func TestStepLong(t *testing.T) {
	n := &gate.Net{Given: api.MaxNodes, Nodes: nodes{{Op: gate.In, A: api.MaxNodes - 1}}}
	for i := range api.MaxNodes {
		n.Outs = append(n.Outs, i)
		if i > 0 {
			n.Nodes = append(n.Nodes, gate.Node{Op: gate.Not, A: i - 1})
		}
	}
	given := make([]bool, api.MaxNodes)
	s := made(t, n)
	for _, last := range []bool{false, true} {
		given[api.MaxNodes-1] = last
		for i, got := range s.Step(given) {
			if got != (last == (i%2 == 0)) {
				t.Fatalf("of %v: node %d is %v", last, i, got)
			}
		}
	}
}

// P1: what New did not make does nothing.
func TestNoSim(t *testing.T) {
	s, _ := gate.New(nil)
	if got := s.Step([]bool{true}); len(got) != 0 {
		t.Errorf("no Sim lets out %v", got)
	}
}

// P4: what is handed in stays, what comes out is fresh, and each Sim goes its own way.
func TestHandedInStays(t *testing.T) {
	n := all()
	keep := &gate.Net{Given: n.Given, Nodes: slices.Clone(n.Nodes), Outs: slices.Clone(n.Outs)}
	s, other := made(t, n), made(t, n)
	room := []bool{true, true, false, true}
	first := s.Step(room[:2])
	want := slices.Clone(first)
	second := s.Step(room[:1:3])
	if !slices.Equal(first, want) || slices.Equal(first, second) {
		t.Errorf("%v is %v behind another Step, that tells %v", want, first, second)
	}
	if !reflect.DeepEqual(n, keep) || !slices.Equal(room, []bool{true, true, false, true}) {
		t.Errorf("what was handed in is %v, %v now", *n, room)
	}
	for i := range first {
		first[i], second[i] = !first[i], !second[i]
	}
	if got := other.Step(room[:2]); !slices.Equal(got, want) {
		t.Errorf("another Sim of that net lets out %v, want %v", got, want)
	}
	n.Right()
	n.Gates()
	if got := made(t, n).Step(room[:2]); !slices.Equal(got, want) || !reflect.DeepEqual(n, keep) {
		t.Errorf("a later Sim of that net lets out %v, want %v", got, want)
	}
}

package lut_test

import (
	"math"
	"strconv"
	"testing"

	"rungwork/api"
	"rungwork/lut"
	"rungwork/plain"
)

// far are numbers that are nowhere near a signal's, nor a table's.
var far = []int{math.MinInt, math.MinInt32, -1, math.MaxInt32, math.MaxInt}

// regs and luts are registers, and tables, written out.
type (
	regs = []lut.Reg
	luts = []lut.Lut
)

// show tells a net.
func show(n *lut.Net) string {
	text := strconv.Itoa(n.Given) + " given, registers:"
	for _, r := range n.Regs {
		text += " " + strconv.FormatBool(r.Init) + "." + strconv.Itoa(r.Next)
	}
	text += ", tables:"
	for _, l := range n.Luts {
		text += " " + strconv.Itoa(l.Table) + "("
		for _, in := range l.Ins {
			text += " " + strconv.Itoa(in)
		}
		text += " )"
	}
	text += ", out:"
	for _, o := range n.Outs {
		text += " " + strconv.Itoa(o)
	}
	return text
}

// right asks whether a net may be, and whether New says the same: a Sim, or ErrArg at no place.
func right(t *testing.T, what string, n *lut.Net, want bool) {
	t.Helper()
	if got := n.Right(); got != want {
		t.Errorf("%s: Right is %v", what, got)
	}
	s, err := lut.New(n)
	wanted := api.ErrArg
	if want {
		wanted = api.OK
	}
	if e, at := plain.Place(err); e != wanted || at != -1 || (s != nil) != want {
		t.Errorf("%s: New tells %v, error %d at %d, want error %d", what, s != nil, e, at, wanted)
	}
	if deep := n.Depth(); !want && deep != 0 {
		t.Errorf("%s: it is not Right, but its Depth is %d", what, deep)
	}
}

// Promise 9.1: nothing, and no net at all.
func TestRightOfNothing(t *testing.T) {
	right(t, "nil", nil, false)
	right(t, "nothing", &lut.Net{}, true)
	right(t, "empty", &lut.Net{Regs: regs{}, Luts: luts{}, Outs: []int{}}, true)
	right(t, "out of nothing", &lut.Net{Outs: []int{0}}, false)
}

// Promise 9.1: how many there may be of each: MaxNodes, and no more.
func TestRightHowMany(t *testing.T) {
	for many, want := range map[int]bool{0: true, 1: true, api.MaxNodes - 1: true, api.MaxNodes: true, api.MaxNodes + 1: false, 2 * api.MaxNodes: false} {
		what := strconv.Itoa(many)
		right(t, what+" given", &lut.Net{Given: many}, want)
		right(t, what+" registers", &lut.Net{Regs: make(regs, many)}, want)
		right(t, what+" tables", &lut.Net{Luts: make(luts, many)}, want)
		right(t, what+" out", &lut.Net{Given: 1, Outs: make([]int, many)}, want)
		right(t, what+" of each", &lut.Net{Given: many, Regs: make(regs, many), Luts: make(luts, many), Outs: make([]int, many)}, want)
	}
	for _, k := range far {
		right(t, strconv.Itoa(k)+" given", &lut.Net{Given: k}, false)
	}
}

// Promise 9.1: a table has at most four signals; they may be the same.
func TestRightHowManyIns(t *testing.T) {
	for many := range 10 {
		what := strconv.Itoa(many) + " signals"
		right(t, what, &lut.Net{Given: 12, Luts: luts{{Ins: []int{11, 10, 9, 8, 7, 6, 5, 4, 3, 2}[:many]}}}, many <= 4)
		right(t, what+", the same", &lut.Net{Given: 1, Luts: luts{{Ins: make([]int, many)}}}, many <= 4)
	}
}

// mixed is a net with two of each: signals 0 and 1 are given, 2 and 3 registers, 4, 5 and 6 tables, all of them out.
func mixed() *lut.Net {
	return &lut.Net{
		Given: 2,
		Regs:  regs{{Init: true, Next: 6}, {Next: 4}},
		Luts:  luts{{Ins: []int{0, 3}, Table: 6}, {Ins: []int{2, 1, 4}, Table: 201}, {Ins: []int{5}, Table: 1}},
		Outs:  []int{0, 1, 2, 3, 4, 5, 6},
	}
}

// Promise 9.1: a table's signals are ahead of it; any other is none, in whatever place.
func TestRightIns(t *testing.T) {
	right(t, "mixed", mixed(), true)
	for i := range 3 {
		for place := range len(mixed().Luts[i].Ins) {
			for in := -2; in < 10; in++ {
				n := mixed()
				n.Luts[i].Ins[place] = in
				right(t, "signal "+strconv.Itoa(in)+" of table "+strconv.Itoa(i), n, in >= 0 && in < 4+i)
			}
			for _, in := range far {
				n := mixed()
				n.Luts[i].Ins[place] = in
				right(t, "signal "+strconv.Itoa(in), n, false)
			}
		}
	}
	right(t, "none ahead", &lut.Net{Luts: luts{{Ins: []int{0}}}}, false)
	right(t, "a table ahead", &lut.Net{Luts: luts{{}, {Ins: []int{0}}}}, true)
}

// Promise 9.1: a table is from 0 to below 2^(2^k).
func TestRightTable(t *testing.T) {
	for k, below := range []int{2, 4, 16, 256, 65536} {
		of := func(table int) *lut.Net {
			return &lut.Net{Given: 4, Luts: luts{{Ins: []int{0, 1, 2, 3}[:k], Table: table}}}
		}
		for table, want := range map[int]bool{-2: false, -1: false, 0: true, 1: true, below - 2: true, below - 1: true, below: false, below + 1: false, 2 * below: false, 1 << 32: false} {
			right(t, "table "+strconv.Itoa(table)+" of "+strconv.Itoa(k), of(table), want)
		}
		for _, table := range far {
			right(t, "table "+strconv.Itoa(table), of(table), false)
		}
	}
	for table := range 20 {
		right(t, "the second table "+strconv.Itoa(table), &lut.Net{Given: 1, Luts: luts{{Ins: []int{0, 0}, Table: 15}, {Ins: []int{0}, Table: table}}}, table < 4)
	}
}

// Promise 9.1: each Next, and each Out, is any signal, and nothing else.
func TestRightNextAndOuts(t *testing.T) {
	for _, k := range append([]int{-2, 0, 1, 2, 3, 4, 5, 6, 7, 8}, far...) {
		want := k >= 0 && k < 7
		for i := range 2 {
			n := mixed()
			n.Regs[i].Next = k
			right(t, "Next "+strconv.Itoa(k), n, want)
		}
		for i := range 7 {
			n := mixed()
			n.Outs[i] = k
			right(t, "Out "+strconv.Itoa(k), n, want)
		}
	}
	right(t, "a register of itself", &lut.Net{Regs: regs{{}}}, true)
	right(t, "a register of nothing", &lut.Net{Regs: regs{{Next: 1}}}, false)
}

// Promise 9.1: Depth is how many tables lie behind one another, at most: of all tables, but not through registers.
func TestDepth(t *testing.T) {
	for what, c := range map[string]struct {
		n    *lut.Net
		want int
	}{
		"nil":               {nil, 0},
		"nothing":           {&lut.Net{}, 0},
		"no table":          {&lut.Net{Given: 2, Regs: regs{{Next: 0}, {Next: 2}}, Outs: []int{0, 3}}, 0},
		"no signals":        {&lut.Net{Luts: luts{{Table: 1}}}, 1},
		"behind no signals": {&lut.Net{Luts: luts{{Table: 1}, {Ins: []int{0}, Table: 1}}}, 2},
		"beside":            {&lut.Net{Given: 1, Luts: luts{{Ins: []int{0}}, {Ins: []int{0}}, {Ins: []int{0}}}}, 1},
		"behind":            {&lut.Net{Given: 1, Luts: luts{{Ins: []int{0}}, {Ins: []int{1}}, {Ins: []int{2}}}}, 3},
		"the deeper first":  {&lut.Net{Given: 1, Luts: luts{{Ins: []int{0}}, {Ins: []int{1, 0}}, {Ins: []int{0}}, {Ins: []int{2, 3, 0}}}}, 3},
		"the deeper last":   {&lut.Net{Given: 1, Luts: luts{{Ins: []int{0}}, {Ins: []int{1, 0}}, {Ins: []int{0}}, {Ins: []int{0, 3, 1, 2}}}}, 3},
		"the deepest ahead": {&lut.Net{Given: 1, Luts: luts{{Ins: []int{0}}, {Ins: []int{1}}, {Ins: []int{0}}}, Outs: []int{3}}, 2},
		"round a register":  {&lut.Net{Regs: regs{{Next: 2}, {Next: 3}}, Luts: luts{{Ins: []int{0, 1}}, {Ins: []int{0, 2}}}, Outs: []int{3}}, 2},
		"through registers": {&lut.Net{Given: 1, Regs: regs{{Next: 3}, {Next: 4}}, Luts: luts{{Ins: []int{0}}, {Ins: []int{1}}, {Ins: []int{2}}}, Outs: []int{5}}, 1},
		"mixed":             {mixed(), 3},
		"not Right":         {&lut.Net{Given: 1, Luts: luts{{Ins: []int{0}}, {Ins: []int{1}}}, Outs: []int{3}}, 0},
	} {
		if got := c.n.Depth(); got != c.want {
			t.Errorf("%s: Depth is %d, want %d", what, got, c.want)
		}
	}
}

// Promise 9.1, the bounds: as many tables as there may be, each behind the one ahead, or all beside one another.
func TestDepthLargest(t *testing.T) {
	n := &lut.Net{Given: api.MaxNodes, Regs: make(regs, api.MaxNodes), Luts: make(luts, api.MaxNodes)}
	for i := range n.Luts {
		last := 2*api.MaxNodes + i - 1
		n.Luts[i] = lut.Lut{Ins: []int{last, 0, last, last}, Table: 65535}
	}
	if got := n.Depth(); got != api.MaxNodes {
		t.Errorf("behind one another: Depth is %d", got)
	}
	for i := range n.Luts {
		n.Luts[i] = lut.Lut{Ins: []int{i}, Table: 3}
	}
	if got := n.Depth(); got != 1 {
		t.Errorf("beside one another: Depth is %d", got)
	}
}

// Promise 9.1, P4: nothing that is handed in is written into.
func TestAskedStays(t *testing.T) {
	n := mixed()
	n.Right()
	n.Depth()
	if got, want := show(n), show(mixed()); got != want {
		t.Errorf("%s is %s now", want, got)
	}
}

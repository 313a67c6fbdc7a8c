package lut_test

import (
	"reflect"
	"slices"
	"testing"

	"rungwork/api"
	"rungwork/lut"
	"rungwork/plain"
)

// made is a net at first that may be.
func made(t *testing.T, n *lut.Net) *lut.Sim {
	t.Helper()
	s, err := lut.New(n)
	if err != nil || s == nil {
		t.Fatalf("%.600s: error %d", show(n), api.Tell(err))
	}
	return s
}

// bits are what a text of 0 and 1 tells.
func bits(text string) []bool {
	var l []bool
	for _, c := range text {
		l = append(l, c == '1')
	}
	return l
}

// binary are a number's bits, the least first.
func binary(n, many int) []bool {
	l := make([]bool, many)
	for i := range l {
		l[i] = n>>i&1 == 1
	}
	return l
}

// cycles asks a net for what it lets out, cycle by cycle, and for its registers behind it: texts by threes.
func cycles(t *testing.T, what string, n *lut.Net, l ...string) {
	t.Helper()
	s := made(t, n)
	for i := 0; i+2 < len(l); i += 3 {
		if got := s.Step(bits(l[i])); !slices.Equal(got, bits(l[i+1])) {
			t.Errorf("%s, cycle %d: of %q: %v, want %q", what, i/3, l[i], got, l[i+1])
		}
		if got := s.Regs(); !slices.Equal(got, bits(l[i+2])) {
			t.Errorf("%s, cycle %d: of %q: registers are %v, want %q", what, i/3, l[i], got, l[i+2])
		}
	}
}

// Promise 9.2: a table lets out the bit whose number has its signals as bits, the first one the least: each bit of each table of so many signals (of four: each bit alone, each left out, and some more).
func TestStepTables(t *testing.T) {
	for many := range 5 {
		var tables []int
		for table := range 1 << (1 << min(many, 3)) {
			tables = append(tables, table)
		}
		if many == 4 {
			for k := range 16 {
				tables = append(tables, 1<<k, 65535-1<<k, 4919*k%65536)
			}
		}
		n := &lut.Net{Given: 4}
		for i, table := range tables {
			n.Luts = append(n.Luts, lut.Lut{Ins: []int{0, 1, 2, 3}[:many], Table: table})
			n.Outs = append(n.Outs, 4+i)
		}
		s := made(t, n)
		for k := range 16 {
			for i, got := range s.Step(binary(k, 4)) {
				if bit := k % (1 << many); got != (tables[i]/(1<<bit)%2 == 1) {
					t.Fatalf("table %d of %d signals that are %d: %v", tables[i], many, bit, got)
				}
			}
		}
	}
}

// Promise 9.2: in whatever order a table's signals stand, the first one is the least bit; one may stand there twice.
func TestStepOrder(t *testing.T) {
	n := &lut.Net{Given: 3, Luts: luts{
		{Ins: []int{2, 0, 1}, Table: 1 << 1}, // signal 2 alone
		{Ins: []int{1, 2, 0}, Table: 1 << 6}, // signals 2 and 0
		{Ins: []int{0, 1, 0, 1}, Table: 1<<5 | 1<<10},
		{Ins: []int{0, 1, 0}, Table: 1<<1 | 1<<3 | 1<<4 | 1<<6}, // what stands at numbers that cannot be
	}, Outs: []int{3, 4, 5, 6}}
	cycles(t, "order", n,
		"000", "0000", "", "100", "0010", "", "010", "0010", "", "110", "0000", "",
		"001", "1000", "", "101", "0110", "", "011", "0010", "", "111", "0000", "")
}

// Promise 9.2: tables of given bits, of registers, and of tables ahead, that come out in order, one twice, too.
func TestStepMixed(t *testing.T) {
	n := mixed()
	cycles(t, "mixed", n,
		"00", "0010"+"001", "10",
		"10", "1010"+"101", "11",
		"01", "0111"+"110", "01",
		"11", "1101"+"001", "10",
		"01", "0110"+"010", "00",
		"10", "1000"+"101", "11")
	n.Outs = []int{6, 0, 2, 2, 6, 0}
	cycles(t, "mixed, out otherwise", n, "00", "101110", "10", "10", "111111", "11")
	n.Outs = nil
	cycles(t, "mixed, nothing out", n, "00", "", "10", "10", "", "11")
}

// Promise 9.2: bits that are missing are false, those beyond Given are not looked at, nor is what stands behind the list's length.
func TestStepGiven(t *testing.T) {
	n := &lut.Net{Given: 3, Regs: regs{{Init: true, Next: 2}}, Luts: luts{{Ins: []int{2, 0}, Table: 9}}, Outs: []int{2, 1, 0, 3, 4}}
	cycles(t, "given", n,
		"", "00011", "0",
		"1", "00100", "0",
		"11", "01100", "0",
		"111", "11101", "1",
		"0011", "10010", "1",
		"1001111", "00110", "0",
		"0001", "00001", "0")
	if got := made(t, n).Step(bits("111")[:1]); !slices.Equal(got, bits("00110")) {
		t.Errorf("behind the length: %v", got)
	}
	if got := made(t, n).Step(nil); !slices.Equal(got, bits("00011")) {
		t.Errorf("nothing given: %v", got)
	}
}

// Promise 9.2: registers are Init at first, and then, all at once, what their Next was: a given bit, another register, themselves, a table.
func TestStepRegs(t *testing.T) {
	ring := &lut.Net{Regs: regs{{Init: true, Next: 2}, {Next: 0}, {Next: 1}}, Outs: []int{0, 1, 2}}
	cycles(t, "ring", ring, "", "100", "010", "", "010", "001", "", "001", "100", "", "100", "010")
	back := &lut.Net{Regs: regs{{Init: true, Next: 1}, {Next: 2}, {Next: 0}}, Outs: []int{0, 1, 2}}
	cycles(t, "ring, the other way", back, "", "100", "001", "", "001", "010", "", "010", "100")
	self := &lut.Net{Regs: regs{{Init: true, Next: 0}, {Next: 1}}, Outs: []int{1, 0}}
	cycles(t, "themselves", self, "1", "01", "10", "0", "01", "10")
	late := &lut.Net{Given: 1, Regs: regs{{Next: 0}, {Init: true, Next: 1}, {Next: 2}}, Outs: []int{3}}
	cycles(t, "late", late, "1", "0", "101", "0", "1", "010", "0", "0", "001", "0", "1", "000")
	turn := &lut.Net{Regs: regs{{Next: 1}}, Luts: luts{{Ins: []int{0}, Table: 1}}, Outs: []int{0, 1}}
	cycles(t, "turned", turn, "", "01", "1", "", "10", "0", "", "01", "1")
	known := &lut.Net{Regs: regs{{Next: 2}, {Init: true, Next: 3}}, Luts: luts{{Table: 1}, {Table: 0}}, Outs: []int{0, 1, 2, 3}}
	cycles(t, "known", known, "", "0110", "10", "", "1010", "10")
}

// Promise 9.2: registers that do not come out go on, too; four of them count.
func TestStepCounts(t *testing.T) {
	n := &lut.Net{Outs: []int{8}}
	for i := range 4 {
		n.Regs = append(n.Regs, lut.Reg{Next: 4 + i})
		ins := []int{i, 0, 1, 2}[:1+i]
		all := 1<<len(ins) - 2 // all those that are less are 1
		n.Luts = append(n.Luts, lut.Lut{Ins: ins, Table: rising(len(ins), all)})
	}
	n.Luts = append(n.Luts, lut.Lut{Ins: []int{0, 1, 2, 3}, Table: 1 << 15})
	s := made(t, n)
	for i := range 100 {
		if got := s.Regs(); !slices.Equal(got, binary(i%16, 4)) {
			t.Fatalf("cycle %d: registers are %v", i, got)
		}
		if got := s.Step(nil); !slices.Equal(got, []bool{i%16 == 15}) {
			t.Fatalf("cycle %d: %v", i, got)
		}
	}
}

// rising is a table of which the first signal is let out, turned if all others are 1.
func rising(many, all int) int {
	table := 0
	for k := range 1 << many {
		if (k%2 == 1) != (k&all == all) {
			table |= 1 << k
		}
	}
	return table
}

// Promise 9.2: Put: not as many are ErrArg, at no place, and nothing is changed; as many are the registers.
func TestPut(t *testing.T) {
	n := &lut.Net{Given: 1, Regs: regs{{Init: true, Next: 2}, {Next: 0}, {Next: 1}}, Outs: []int{3, 2, 1}}
	s := made(t, n)
	for many := range 6 {
		l := binary(5, many)
		e, at := plain.Place(s.Put(l))
		switch {
		case many == 3 && e == api.OK && slices.Equal(s.Regs(), bits("101")):
			s = made(t, n)
		case many != 3 && e == api.ErrArg && at == -1 && slices.Equal(s.Regs(), bits("100")):
		default:
			t.Errorf("%d registers put: error %d at %d, registers are %v", many, e, at, s.Regs())
		}
	}
	if got := s.Step(bits("1")); !slices.Equal(got, bits("001")) {
		t.Errorf("registers that could not be put: %v", got)
	}
	if err := s.Put(bits("011")); err != nil {
		t.Errorf("error %d", api.Tell(err))
	}
	if got := s.Step(bits("1")); !slices.Equal(got, bits("110")) || !slices.Equal(s.Regs(), bits("110")) {
		t.Errorf("registers that were put let out %v, and are %v then", got, s.Regs())
	}
	none := made(t, &lut.Net{Given: 2, Outs: []int{1}})
	if api.Tell(none.Put(nil)) != api.OK || api.Tell(none.Put([]bool{})) != api.OK || api.Tell(none.Put(bits("0"))) != api.ErrArg || len(none.Regs()) != 0 {
		t.Error("no registers")
	}
}

// Promise 9.2: a net that is put where another one is goes on just so, whatever came ahead.
func TestPutGoesOn(t *testing.T) {
	d := die(91)
	for range 500 {
		n := d.tables(4, 6, 12)
		a, b := made(t, n), made(t, n)
		for range d.n(10) {
			a.Step(d.given(n))
		}
		for range d.n(10) {
			b.Step(d.given(n))
		}
		if err := b.Put(a.Regs()); err != nil {
			t.Fatalf("%s: error %d", show(n), api.Tell(err))
		}
		for cycle := range 10 {
			g := d.given(n)
			if want, got := a.Step(g), b.Step(g); !slices.Equal(got, want) || !slices.Equal(a.Regs(), b.Regs()) {
				t.Fatalf("%s, put, cycle %d: %v, want %v", show(n), cycle, got, want)
			}
		}
	}
}

// P1: what New did not make does nothing.
func TestNoSim(t *testing.T) {
	s, err := lut.New(&lut.Net{Given: -1})
	if s != nil || api.Tell(err) != api.ErrArg {
		t.Errorf("%v, error %d", s, api.Tell(err))
	}
	if len(s.Step(bits("1"))) != 0 || len(s.Regs()) != 0 || s.Put(bits("1")) == nil {
		t.Error("no Sim lets something out, or holds something")
	}
}

// P4: what is handed in stays, what comes out is fresh, and each Sim goes its own way.
func TestHandedInStays(t *testing.T) {
	n := mixed()
	s, other := made(t, n), made(t, n)
	room := bits("1101")
	outs := s.Step(room[:2])
	held := s.Regs()
	wantOuts, wantHeld := slices.Clone(outs), slices.Clone(held)
	s.Step(room[:1:3])
	if !slices.Equal(outs, wantOuts) || !slices.Equal(held, wantHeld) {
		t.Errorf("%v, %v are %v, %v behind another Step", wantOuts, wantHeld, outs, held)
	}
	put := bits("0110")
	if err := s.Put(put[:2]); err != nil {
		t.Fatal(err)
	}
	s.Step(nil)
	if !reflect.DeepEqual(n, mixed()) || !slices.Equal(room, bits("1101")) || !slices.Equal(put, bits("0110")) {
		t.Errorf("what was handed in is %s, %v, %v now", show(n), room, put)
	}
	n.Regs[0].Next, n.Luts[0].Table, n.Luts[1].Ins[1], n.Outs[6] = 0, 0, 3, 0
	if got := other.Step(room[:2]); !slices.Equal(got, wantOuts) || !slices.Equal(other.Regs(), wantHeld) {
		t.Errorf("another Sim of that net lets out %v, want %v", got, wantOuts)
	}
}

// P4: neither what was put nor what Regs told is the Sim's: it may be written into.
func TestRegsAreTheCallers(t *testing.T) {
	n := &lut.Net{Regs: regs{{Init: true, Next: 0}, {Next: 1}}, Outs: []int{0, 1}}
	s := made(t, n)
	l := s.Regs()
	l[0], l[1] = false, true
	if got := s.Step(nil); !slices.Equal(got, bits("10")) {
		t.Errorf("what Regs told is kept: %v", got)
	}
	if err := s.Put(l); err != nil {
		t.Fatal(err)
	}
	l[0], l[1] = true, false
	if got := s.Step(nil); !slices.Equal(got, bits("01")) || !slices.Equal(s.Regs(), bits("01")) {
		t.Errorf("what was put is kept: %v, %v", got, s.Regs())
	}
	n.Regs[0].Init = false
	if got := made(t, n).Step(nil); !slices.Equal(got, bits("00")) {
		t.Errorf("a later Sim lets out %v", got)
	}
}

// Promise 9.2, the bounds: a net as great as may be.
func TestStepLargest(t *testing.T) {
	const many = api.MaxNodes
	n := &lut.Net{Given: many, Regs: make(regs, many), Luts: make(luts, many), Outs: make([]int, many)}
	for i := range many {
		n.Regs[i] = lut.Reg{Init: i%2 == 0, Next: many - 1 - i} // the given bits, the other way round
		n.Luts[i] = lut.Lut{Ins: []int{2*many + i - 1, i, many + i}, Table: 0b10010110}
		n.Outs[i] = 3*many - 1 - i
	}
	d, s := die(92), made(t, n)
	held := s.Regs()
	for range 3 {
		given := make([]bool, many)
		for i := range given {
			given[i] = d.n(2) == 0
		}
		odd := held[many-1] // the signal ahead of the first table
		for i, got := range slices.Backward(s.Step(given)) {
			k := many - 1 - i
			odd = odd != (given[k] != held[k])
			if got != odd {
				t.Fatalf("table %d is %v", k, got)
			}
		}
		slices.Reverse(given)
		if held = s.Regs(); !slices.Equal(held, given) {
			t.Fatal("registers are not what was given")
		}
	}
}

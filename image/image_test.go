package image_test

import (
	"fmt"
	"reflect"
	"strconv"
	"strings"
	"testing"

	"rungwork/api"
	"rungwork/image"
	"rungwork/lut"
	"rungwork/plain"
)

// regs and luts are registers, and tables, written out.
type (
	regs = []lut.Reg
	luts = []lut.Lut
)

// show tells a net, of many numbers the first ones.
func show(n *lut.Net) string {
	if n == nil {
		return "no net"
	}
	return fmt.Sprintf("%.300s", fmt.Sprint(*n))
}

// same says whether two nets are the same; an empty list may be nil or not.
func same(n, m *lut.Net) bool { return fmt.Sprint(*n) == fmt.Sprint(*m) }

// writes asks for a net's text.
func writes(t *testing.T, n *lut.Net) string {
	t.Helper()
	s, err := image.Write(n)
	if err != nil {
		t.Fatalf("%s: error %d", show(n), api.Tell(err))
	}
	return s
}

// is asks whether a net is written so, and is read again of it.
func is(t *testing.T, n *lut.Net, want string) {
	t.Helper()
	if got := writes(t, n); got != want {
		t.Errorf("%s is written % x, want % x", show(n), got, want)
	}
	reads(t, want, n)
}

// reads asks whether a text is that net.
func reads(t *testing.T, s string, want *lut.Net) {
	t.Helper()
	n, err := image.Parse(s)
	if err != nil || n == nil {
		t.Fatalf("% .90x: error %d, want %s", s, api.Tell(err), show(want))
	}
	if !same(n, want) {
		t.Fatalf("% .90x: read as %s, want %s", s, show(n), show(want))
	}
}

// noNet asks whether a text is no net.
func noNet(t *testing.T, what, s string) {
	t.Helper()
	n, err := image.Parse(s)
	if e, at := plain.Place(err); n != nil || e != api.ErrForm || at != -1 {
		t.Errorf("%s, % .90x: %s, error %d at %d, want ErrForm", what, s, show(n), e, at)
	}
}

// unwritten asks whether a net is not written.
func unwritten(t *testing.T, what string, n *lut.Net) {
	t.Helper()
	s, err := image.Write(n)
	if e, at := plain.Place(err); s != "" || e != api.ErrArg || at != -1 {
		t.Errorf("%s: % .90x, error %d at %d, want ErrArg", what, s, e, at)
	}
}

// example is the net of the document's example.
func example() *lut.Net {
	return &lut.Net{Given: 2, Regs: regs{{Init: true, Next: 3}}, Luts: luts{{Ins: []int{0, 2}, Table: 6}}, Outs: []int{3}}
}

// mixed is a net with several of each, and numbers of one, two and three bytes: signals 0 to 129 are given, 130 to 132 registers, 133 to 137 tables.
func mixed() *lut.Net {
	return &lut.Net{
		Given: 130,
		Regs:  regs{{Init: true, Next: 137}, {Next: 0}, {Next: 131}},
		Luts:  luts{{Table: 1}, {Ins: []int{133}, Table: 2}, {Ins: []int{0, 132}, Table: 9}, {Ins: []int{127, 128, 135}, Table: 200}, {Ins: []int{1, 1, 129, 136}, Table: 40000}},
		Outs:  []int{137, 5, 5},
	}
}

// mixedText is what mixed is written as.
const mixedText = "\x82\x01" + "\x03\x01\x89\x01\x00\x00\x00\x83\x01" +
	"\x05" + "\x00\x01" + "\x01\x85\x01\x02" + "\x02\x00\x84\x01\x09" + "\x03\x7f\x80\x01\x87\x01\xc8\x01" + "\x04\x01\x01\x81\x01\x88\x01\xc0\xb8\x02" +
	"\x03\x89\x01\x05\x05"

// Promise 10.1: nets, and their bytes.
func TestNets(t *testing.T) {
	is(t, example(), "\x02\x01\x01\x03\x01\x02\x00\x02\x06\x01\x03")
	is(t, mixed(), mixedText)
	is(t, &lut.Net{}, "\x00\x00\x00\x00")
	is(t, &lut.Net{Regs: regs{}, Luts: luts{}, Outs: []int{}}, "\x00\x00\x00\x00")
	is(t, &lut.Net{Given: 1}, "\x01\x00\x00\x00")
	is(t, &lut.Net{Given: 1, Outs: []int{0, 0}}, "\x01\x00\x00\x02\x00\x00")
	is(t, &lut.Net{Regs: regs{{}}}, "\x00\x01\x00\x00\x00\x00")
	is(t, &lut.Net{Regs: regs{{Init: true}}}, "\x00\x01\x01\x00\x00\x00")
	is(t, &lut.Net{Luts: luts{{}}}, "\x00\x00\x01\x00\x00\x00")
	is(t, &lut.Net{Luts: luts{{Ins: []int{}, Table: 1}}}, "\x00\x00\x01\x00\x01\x00")
}

// digits are numbers whose bytes are known.
var digits = map[int]string{
	0: "\x00", 1: "\x01", 2: "\x02", 63: "\x3f", 64: "\x40", 126: "\x7e", 127: "\x7f",
	128: "\x80\x01", 129: "\x81\x01", 255: "\xff\x01", 256: "\x80\x02", 300: "\xac\x02", 8191: "\xff\x3f", 8192: "\x80\x40",
	16382: "\xfe\x7f", 16383: "\xff\x7f", 16384: "\x80\x80\x01", 16385: "\x81\x80\x01", 19999: "\x9f\x9c\x01", 20000: "\xa0\x9c\x01",
}

// Promise 10.1: numbers, wherever they stand, at the edges of their bytes.
func TestNumbers(t *testing.T) {
	for k, d := range digits {
		is(t, &lut.Net{Given: k}, d+"\x00\x00\x00")
		is(t, &lut.Net{Given: 20000, Outs: []int{0, max(k, 1) - 1, 0}}, "\xa0\x9c\x01\x00\x00\x03\x00"+digitsOf(max(k, 1)-1)+"\x00")
		if k == 20000 {
			continue // of that many there is no such signal
		}
		is(t, &lut.Net{Given: 20000, Outs: []int{k}}, "\xa0\x9c\x01\x00\x00\x01"+d)
		is(t, &lut.Net{Given: 20000, Regs: regs{{Init: true, Next: k}}}, "\xa0\x9c\x01\x01\x01"+d+"\x00\x00")
		is(t, &lut.Net{Given: 20000, Luts: luts{{Ins: []int{k, 7}}}}, "\xa0\x9c\x01\x00\x01\x02"+d+"\x07\x00\x00")
		is(t, &lut.Net{Given: 1, Luts: luts{{Ins: make([]int, 4), Table: k}}}, "\x01\x00\x01\x04\x00\x00\x00\x00"+d+"\x00")
	}
	for k, d := range map[int]string{20001: "\xa1\x9c\x01", 32768: "\x80\x80\x02", 65534: "\xfe\xff\x03", 65535: "\xff\xff\x03"} {
		is(t, &lut.Net{Given: 1, Luts: luts{{Ins: make([]int, 4), Table: k}}}, "\x01\x00\x01\x04\x00\x00\x00\x00"+d+"\x00")
	}
}

// digitsOf are a number's bytes, worked out from the last one on.
func digitsOf(k int) string {
	if k < 128 {
		return string([]byte{byte(k)})
	}
	return string([]byte{byte(128 | k&127)}) + digitsOf(k>>7)
}

// Promise 10.1: how many there are, of each, at the edges of their bytes, up to MaxNodes.
func TestHowMany(t *testing.T) {
	for k, d := range digits {
		is(t, &lut.Net{Regs: make(regs, k)}, "\x00"+d+strings.Repeat("\x00\x00", k)+"\x00\x00")
		is(t, &lut.Net{Luts: make(luts, k)}, "\x00\x00"+d+strings.Repeat("\x00\x00", k)+"\x00")
		is(t, &lut.Net{Given: 1, Outs: make([]int, k)}, "\x01\x00\x00"+d+strings.Repeat("\x00", k))
	}
	for k := range 5 {
		n := &lut.Net{Given: 9, Luts: luts{{Ins: []int{8, 7, 6, 5}[:k]}}}
		is(t, n, "\x09\x00\x01"+digitsOf(k)+"\x08\x07\x06\x05"[:k]+"\x00\x00")
	}
}

// Promise 10.1: Write of nets that are not Right.
func TestUnwritten(t *testing.T) {
	unwritten(t, "nil", nil)
	unwritten(t, "below nothing given", &lut.Net{Given: -1})
	unwritten(t, "too much given", &lut.Net{Given: api.MaxNodes + 1})
	unwritten(t, "too many registers", &lut.Net{Regs: make(regs, api.MaxNodes+1)})
	unwritten(t, "too many tables", &lut.Net{Luts: make(luts, api.MaxNodes+1)})
	unwritten(t, "too many out", &lut.Net{Given: 1, Outs: make([]int, api.MaxNodes+1)})
	for _, k := range []int{-1 << 63, -128, -1, 4, 1 << 40, 1<<63 - 1} {
		n := example()
		n.Outs[0] = k
		unwritten(t, "out "+strconv.Itoa(k), n)
		n = example()
		n.Regs[0].Next = k
		unwritten(t, "next "+strconv.Itoa(k), n)
	}
	n := example()
	n.Luts[0].Ins[1] = 3
	unwritten(t, "a signal that is not ahead", n)
	n = example()
	n.Luts[0].Ins = make([]int, 5)
	unwritten(t, "five signals", n)
	for _, table := range []int{-1, 16, 1 << 32} {
		n = example()
		n.Luts[0].Table = table
		unwritten(t, "table "+strconv.Itoa(table), n)
	}
}

// Promise 10.1, P4: what is written is not written into; what is read is fresh, list for list.
func TestFresh(t *testing.T) {
	n := mixed()
	writes(t, n)
	if !reflect.DeepEqual(n, mixed()) {
		t.Errorf("Write wrote into its net: %s", show(n))
	}
	m, _ := image.Parse(mixedText)
	other, _ := image.Parse(mixedText)
	lists := []*[]int{&m.Outs}
	for i := range m.Luts {
		lists = append(lists, &m.Luts[i].Ins)
	}
	for _, l := range lists {
		*l = append(*l, 99) // writes into the next list, if it lies behind this one
	}
	for _, l := range lists {
		*l = (*l)[:len(*l)-1]
	}
	if !same(m, mixed()) {
		t.Errorf("lists share what stands behind them: %s", show(m))
	}
	for _, l := range lists {
		for i := range *l {
			(*l)[i] = 77
		}
	}
	m.Regs[0].Next, m.Luts[0].Table = 0, 0
	if !same(other, mixed()) {
		t.Errorf("two nets share their lists: %s", show(other))
	}
	reads(t, mixedText, mixed())
}

// small says whether each number of a net takes one byte.
func small(l []int) bool {
	for _, k := range l {
		if k > 127 {
			return false
		}
	}
	return true
}

// told are a net's numbers, worked out by what chapter 10 says.
func told(n *lut.Net) []int {
	out := append([]int{len(n.Outs)}, n.Outs...)
	tables := []int{len(n.Luts)}
	for i := range n.Luts {
		tables = append(tables, len(n.Luts[i].Ins))
		for _, in := range n.Luts[i].Ins {
			tables = append(tables, in)
		}
		tables = append(tables, n.Luts[i].Table)
	}
	l := []int{n.Given, len(n.Regs)}
	for _, r := range n.Regs {
		l = append(l, map[bool]int{true: 1}[r.Init], r.Next)
	}
	return append(append(l, tables...), out...)
}

// Promise 10.1: nets of MaxNodes of each go to bytes and back, no more than four a number.
func TestGreatest(t *testing.T) {
	d := die(5)
	const many = api.MaxNodes
	n := &lut.Net{Given: many, Regs: make(regs, many), Luts: make(luts, many), Outs: make([]int, many)}
	for i := range many {
		n.Regs[i] = lut.Reg{Init: d.n(2) == 0, Next: 3*many - 1 - i}
		n.Luts[i] = lut.Lut{Ins: []int{2*many + i - 1, d.n(2*many + i), many, i}, Table: 65535 - d.n(3)*30000}
		n.Outs[i] = 3*many - 1 - d.n(9)
	}
	asked(t, n)
	n.Outs = append(n.Outs, 0)
	unwritten(t, "one more", n)
}

// asked asks all that is promised of a net that is Right.
func asked(t *testing.T, n *lut.Net) string {
	t.Helper()
	s, l, want := writes(t, n), told(n), ""
	for _, k := range l {
		want += digitsOf(k)
		if len(want) > 4000 {
			break // of greater ones the beginning, and what it is read as, are enough
		}
	}
	if len(want) <= 4000 && s != want || !strings.HasPrefix(s, want) {
		t.Fatalf("%s is written % .300x, want % .300x", show(n), s, want)
	}
	if len(s) > 4*len(l) || small(l) && len(s) != len(l) {
		t.Fatalf("%s: %d bytes of %d numbers", show(n), len(s), len(l))
	}
	reads(t, s, n)
	return s
}

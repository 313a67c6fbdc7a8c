package image_test

import (
	"runtime"
	"slices"
	"strconv"
	"strings"
	"testing"

	"rungwork/api"
	"rungwork/image"
	"rungwork/lut"
	"rungwork/plain"
)

// taken is a text, taken apart number by number: nothing is read of it any more, once something is wrong.
type taken struct {
	s  string
	ok bool
}

// one takes a number from least to most.
func (x *taken) one(least, most int) int {
	k := 0
	for i := 0; x.ok; i++ {
		if i == len(x.s) || i == 3 {
			x.ok = false
			break
		}
		k |= int(x.s[i]&127) << (7 * i)
		if x.s[i] > 127 {
			continue
		}
		x.ok = (i == 0 || x.s[i] > 0) && least <= k && k <= most
		x.s = x.s[i+1:]
		break
	}
	if !x.ok {
		return 0
	}
	return k
}

// want is what a text is meant to be, told by looking at each number for what it may be.
func want(s string) (*lut.Net, bool) {
	x := &taken{s: s, ok: true}
	n := &lut.Net{Given: x.one(0, api.MaxNodes)}
	many := x.one(0, api.MaxNodes)
	for i := 0; i < many && x.ok; i++ {
		init := x.one(0, 1) == 1
		n.Regs = append(n.Regs, lut.Reg{Init: init, Next: x.one(0, 1<<20)})
	}
	many = x.one(0, api.MaxNodes)
	for i := 0; i < many && x.ok; i++ {
		var l lut.Lut
		ins := x.one(0, 4)
		for range ins {
			l.Ins = append(l.Ins, x.one(0, n.Given+len(n.Regs)+i-1))
		}
		l.Table = x.one(0, []int{1, 3, 15, 255, 65535}[ins])
		n.Luts = append(n.Luts, l)
	}
	all := n.Given + len(n.Regs) + len(n.Luts)
	many = x.one(0, api.MaxNodes)
	for i := 0; i < many && x.ok; i++ {
		n.Outs = append(n.Outs, x.one(0, all-1))
	}
	for _, r := range n.Regs {
		x.ok = x.ok && r.Next < all
	}
	return n, x.ok && x.s == ""
}

// parses asks whether a text is what it is meant to be, and is written just so again; it says whether it is a net.
func parses(t *testing.T, s string) bool {
	t.Helper()
	n, ok := want(s)
	if !ok {
		noNet(t, "drawn", s)
		return false
	}
	reads(t, s, n)
	if again := writes(t, n); again != s {
		t.Errorf("% x: written % x", s, again)
	}
	return true
}

// Promise 10.1: all texts of up to six of some bytes.
func TestAllShort(t *testing.T) {
	const bytes = "\x00\x01\x02\x03\x80\x81\xff"
	nets, texts := 0, []string{""}
	for range 7 {
		var longer []string
		for _, s := range texts {
			if parses(t, s) {
				nets++
			}
			for i := range len(bytes) {
				longer = append(longer, s+bytes[i:i+1])
			}
		}
		texts = longer
	}
	if nets < 100 {
		t.Errorf("only %d nets: these are no tests", nets)
	}
}

// Promise 10.1: what a net is written as, byte for byte otherwise.
func TestOneByteOther(t *testing.T) {
	nets := 0
	for _, s := range []string{mixedText, "\x02\x01\x01\x03\x01\x02\x00\x02\x06\x01\x03", "\x00\x00\x00\x00"} {
		for i := range len(s) {
			for b := range 256 {
				if parses(t, s[:i]+string([]byte{byte(b)})+s[i+1:]) {
					nets++
				}
				parses(t, s[:i]+string([]byte{byte(b)})+s[i:])
			}
			parses(t, s[:i]+s[i+1:])
		}
	}
	if nets < 100 {
		t.Errorf("only %d nets: these are no tests", nets)
	}
}

// Promise 10.1: no beginning of what a net is written as is a net, and nothing may stand behind it.
func TestBeginnings(t *testing.T) {
	d := die(8)
	l := []string{mixedText, writes(t, example()), writes(t, &lut.Net{})}
	for range 100 {
		l = append(l, writes(t, d.tables(300, 5, 9)))
	}
	for _, s := range l {
		for i := range len(s) {
			noNet(t, "a beginning", s[:i])
		}
		for b := range 256 {
			noNet(t, "more", s+string([]byte{byte(b)}))
		}
		noNet(t, "twice", s+s)
	}
}

// Promise 10.1: a number is written in one way: with a byte more, or one too great for any net, it is none; wherever it stands.
func TestNumbersOtherwise(t *testing.T) {
	places := []string{"\x02", "\x01", "\x01", "\x03", "\x01", "\x02", "\x00", "\x02", "\x06", "\x01", "\x03"}
	for i, was := range places {
		for _, now := range []string{
			"", "\x80", "\xff",
			string([]byte{was[0] + 128}) + "\x00",                             // nothing more, written
			string([]byte{was[0] + 128}) + "\x80\x00",                         // likewise
			string([]byte{was[0] + 128}) + "\x80\x80\x00",                     // likewise
			string([]byte{was[0] + 128}) + "\x80\x80\x80\x00",                 // likewise
			string([]byte{was[0] + 128}) + "\x80\x80\x80\x10",                 // 2^32 more
			string([]byte{was[0] + 128}) + "\x80\x80\x80\x80\x00",             // nothing more, again
			string([]byte{was[0] + 128}) + strings.Repeat("\x80", 8) + "\x02", // 2^64 more
			string([]byte{was[0] + 128}) + strings.Repeat("\x80", 8) + "\x01", // 2^63 more
			string([]byte{was[0] + 128}) + strings.Repeat("\x80", 40) + "\x01",
			"\xff\xff\x7f", "\xff\xff\xff\x7f", "\xff\xff\xff\xff\x0f", "\xff\xff\xff\xff\x7f", strings.Repeat("\xff", 9) + "\x01", strings.Repeat("\xff", 99),
		} {
			l := slices.Clone(places)
			l[i] = now
			noNet(t, "number "+strconv.Itoa(i), strings.Join(l, ""))
		}
	}
	for b := 2; b < 256; b++ {
		noNet(t, "a register that is neither 0 nor 1 at first", "\x00\x01"+digitsOf(b)+"\x00\x00\x00")
	}
}

// Promise 10.1: what is written otherwise well is no net where it is not Right.
func TestNotRight(t *testing.T) {
	zeros := strings.Repeat("\x00", 2*api.MaxNodes+2)
	for _, s := range []string{
		"\xa1\x9c\x01\x00\x00\x00",                         // too much given
		"\x00\xa1\x9c\x01" + zeros + "\x00\x00",            // too many registers, all there
		"\x00\x00\xa1\x9c\x01" + zeros + "\x00",            // too many tables, all there
		"\x01\x00\x00\xa1\x9c\x01" + zeros[:20001],         // too many out, all there
		"\x01\x00\x01\x05\x00\x00\x00\x00\x00\x00\x00",     // five signals
		"\x01\x00\x01\x04\x00\x00\x00\x00\x80\x80\x04\x00", // a table beyond four signals' bits
		"\x01\x00\x01\x01\x00\x04\x00",                     // beyond one signal's bits
		"\x00\x00\x01\x00\x02\x00",                         // beyond no signal's bits
		"\x01\x00\x01\x01\x01\x00\x00",                     // a table of itself
		"\x01\x00\x02\x01\x02\x00\x00\x00\x00",             // a table of one behind it
		"\x01\x00\x00\x01\x01",                             // no such signal out
		"\x00\x00\x00\x01\x00",                             // no signal at all
		"\x01\x01\x00\x02\x00\x00",                         // no such next
	} {
		noNet(t, "not Right", s)
		parses(t, s)
	}
	for _, s := range []string{
		"\x01\x00\x01\x04\x00\x00\x00\x00\xff\xff\x03\x00", "\x01\x00\x01\x01\x00\x03\x00", "\x00\x00\x01\x00\x01\x00",
		"\x01\x00\x02\x00\x00\x01\x01\x00\x00", "\x01\x00\x00\x01\x00", "\x01\x01\x00\x01\x00\x00",
	} {
		if !parses(t, s) {
			t.Errorf("% x: these are the edges, and are nets", s)
		}
	}
}

// laid is how many bytes of memory are laid out in doing something.
func laid(do func()) int {
	var before, after runtime.MemStats
	runtime.ReadMemStats(&before)
	do()
	runtime.ReadMemStats(&after)
	return int(after.TotalAlloc - before.TotalAlloc)
}

// Promise 10.1: few bytes that ask for much are told soon, and little is laid out for them.
func TestAsksForMuch(t *testing.T) {
	for _, much := range []string{"\xa0\x9c\x01", "\xff\xff\xff\x7f", "\xff\xff\xff\xff\x07", strings.Repeat("\xff", 8) + "\x7f"} {
		for _, s := range []string{much, "\x00" + much, "\x00\x00" + much, "\x01\x00\x01" + much, "\x01\x00\x00" + much, strings.Repeat(much, 9)} {
			if k := laid(func() { noNet(t, "much", s) }); k > 100_000 {
				t.Errorf("% x: %d bytes are laid out for it", s, k)
			}
		}
	}
	for _, b := range []string{"\x00", "\x01", "\x04", "\x05", "\x7f", "\x80", "\xff", "\xff\x7f", "\x02\x00"} {
		noNet(t, "much", strings.Repeat(b, 1_000_000))
	}
}

// Promise 10.1, P1: drawn nets, and drawn texts, some of them hardly otherwise than a net's.
func TestDrawn(t *testing.T) {
	d, nets := die(10), 0
	for range 1500 {
		s := asked(t, d.tables([]int{3, 200, 20000}[d.n(3)], 4, 8))
		for range 20 {
			b := []byte(s)
			for range 1 + d.n(3) {
				at := d.n(len(b) + 1)
				switch d.n(3) {
				case 0:
					b = slices.Insert(b, at, byte(d.n(256)))
				case 1:
					b = slices.Delete(b, min(at, len(b)-1), min(at+1, len(b)))
				default:
					b[min(at, len(b)-1)] = byte(d.n(5))
				}
				if len(b) == 0 {
					break
				}
			}
			if parses(t, string(b)) {
				nets++
			}
		}
	}
	if nets < 1000 || nets > 29000 {
		t.Errorf("%d of 30000 texts are nets: these are no drawn ones", nets)
	}
	for range 20000 {
		b := make([]byte, d.n(12))
		for i := range b {
			b[i] = byte(d.n([]int{3, 256}[d.n(2)]))
		}
		parses(t, string(b))
	}
}

// Promise 10.1, P2: what both functions answer beside an error is nothing, and an Errno at no place.
func TestErrors(t *testing.T) {
	for range 2 {
		n, err := image.Parse("")
		if e, at := plain.Place(err); n != nil || e != api.ErrForm || at != -1 {
			t.Errorf("nothing: %s, error %d at %d", show(n), e, at)
		}
	}
	noNet(t, "words", "in a: bool; begin end")
	noNet(t, "letters beyond bytes", "\u20ac\u0000")
}

package device_test

import (
	"strconv"
	"strings"
	"testing"

	"rungwork/api"
	"rungwork/device"
	"rungwork/lut"
	"rungwork/plain"
)

// shift is a net of a bit given and five registers, of which each is the one ahead of it in the next cycle; they come out.
func shift() *lut.Net {
	return &lut.Net{Given: 1, Regs: regs{{Init: true, Next: 0}, {Next: 1}, {Init: true, Next: 2}, {Init: true, Next: 3}, {Next: 4}}, Outs: row{1, 2, 3, 4, 5}}
}

// shifting is it, in a device.
func shifting(t *testing.T) *device.Device {
	t.Helper()
	return put(t, written(t, shift()), row{api.Bool}, row{1, 1, 1, 1, 1})
}

// holds asks for what a device holds.
func holds(t *testing.T, what string, d *device.Device, want string) {
	t.Helper()
	if got := d.Save(); got != want {
		t.Errorf("%s: it holds %q, want %q", what, got, want)
	}
}

// load lets a device hold something, which must be right.
func load(t *testing.T, d *device.Device, s string) {
	t.Helper()
	if err := d.Load(s); err != nil {
		t.Fatalf("%q: error %d", s, api.Tell(err))
	}
	holds(t, "loaded", d, s)
}

// unload asks for an error of Load, and that nothing is changed.
func unload(t *testing.T, d *device.Device, s string, want api.Errno) {
	t.Helper()
	was := d.Save()
	if e, at := plain.Place(d.Load(s)); e != want || at != -1 {
		t.Errorf("%.90q: error %d at %d, want %d", s, e, at, want)
	}
	holds(t, "behind an error", d, was)
}

// Promise 11.1: Save is a letter a register, in order: what they are at first, and behind each cycle.
func TestSave(t *testing.T) {
	d := shifting(t)
	holds(t, "at first", d, "10110")
	holds(t, "again", d, "10110")
	for i, want := range []string{"01011", "10101", "11010", "01101", "00110", "00011", "00001", "00000", "00000", "10000"} {
		d.Step(row{int("0110000001"[i] - '0')})
		holds(t, "cycle "+strconv.Itoa(i), d, want)
	}
	holds(t, "no registers", put(t, "\x00\x00\x00\x00", nil, nil), "")
	for many := range 130 {
		n := &lut.Net{Regs: make(regs, many)}
		want := ""
		for i := range n.Regs {
			n.Regs[i] = lut.Reg{Init: i%3 == 0, Next: (i + 1) % many}
			want += strconv.Itoa((3 - i%3) / 3)
		}
		d := put(t, written(t, n), nil, nil)
		holds(t, "many", d, want)
		if d.Step(nil); many > 0 {
			holds(t, "many, turned", d, want[1:]+want[:1])
		}
	}
}

// Promise 11.1: Load lets the registers be these, and it goes on from there.
func TestLoad(t *testing.T) {
	d := shifting(t)
	for k := range 32 {
		s := ""
		var l row
		for i := range 5 {
			s += strconv.Itoa(k >> i & 1)
			l = append(l, k>>i&1)
		}
		load(t, d, s)
		steps(t, s, d, row{k}, l, nil, row{k & 1, l[0], l[1], l[2], l[3]}, nil, row{0, k & 1, l[0], l[1], l[2]})
	}
	none := put(t, written(t, nine()), row{api.Bool, api.Byte}, row{api.Byte, api.Bool})
	load(t, none, "")
	unload(t, none, "0", api.ErrArg)
	unload(t, none, "1", api.ErrArg)
	unload(t, none, " ", api.ErrForm)
}

// Promise 11.1: not as many letters as there are registers.
func TestLoadHowMany(t *testing.T) {
	d := shifting(t)
	for many := range 20 {
		for _, c := range []string{"0", "1", "01", "10"} {
			if s := strings.Repeat(c, many); len(s) != 5 {
				unload(t, d, s, api.ErrArg)
			}
		}
	}
	unload(t, d, strings.Repeat("1", 1<<20), api.ErrArg)
	d.Step(row{1})
	unload(t, d, "0000", api.ErrArg)
	unload(t, d, "000000", api.ErrArg)
	steps(t, "behind errors", d, nil, row{1, 1, 0, 1, 1})
}

// Promise 11.1: another letter, wherever it stands, ahead of how many there are.
func TestLoadLetters(t *testing.T) {
	d := shifting(t)
	for b := range 256 {
		c := string([]byte{byte(b)})
		if c == "0" || c == "1" {
			continue
		}
		for i := range 6 {
			unload(t, d, "01101"[:i]+c+"01101"[i:], api.ErrForm)
			unload(t, d, "01101"[:i]+c, api.ErrForm)
			unload(t, d, c+"01101"[i:], api.ErrForm)
		}
	}
	for _, r := range []rune{0x130, 0x131, 0x230, 0x4e30, 0x4e31, 0x660, 0x661, 0xff10, 0xff11, 0xb9, 0x2070, 0x1d7ce, 0x1d7cf, 0x10030, 0x10031, 0xfffd, 0xfeff} {
		for i := range 5 {
			unload(t, d, "01101"[:i]+string(r)+"01101"[i+1:], api.ErrForm)
		}
	}
	for _, s := range []string{"x", "0110x", "x0110", "011010x", "0 1 1 0 1", " 01101", "01101\n", "01101 ", "true", "-1101", "\xe0\x80\xb0", "\xc0\xb11101", strings.Repeat("1", 1<<20) + "2"} {
		unload(t, d, s, api.ErrForm)
	}
	load(t, d, "01101")
}

// Promise 11.1: what was kept goes on, in the same device, and in another one of the same image; an error in between changes nothing.
func TestGoesOn(t *testing.T) {
	one, two := shifting(t), shifting(t)
	steps(t, "one", one, row{1}, row{1, 0, 1, 1, 0}, row{1}, row{1, 1, 0, 1, 1})
	kept := one.Save()
	went := []row{{0}, {1, 1, 1, 0, 1}, {1}, {0, 1, 1, 1, 0}, {1}, {1, 0, 1, 1, 1}}
	steps(t, "one", one, went...)
	load(t, one, kept)
	steps(t, "one again", one, went...)
	steps(t, "two", two, row{0}, row{1, 0, 1, 1, 0})
	load(t, two, kept)
	unload(t, two, "1", api.ErrArg)
	unload(t, two, "0000x", api.ErrForm)
	steps(t, "two", two, went...)
	holds(t, "two", two, one.Save())
}

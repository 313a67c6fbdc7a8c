package device_test

import (
	"math"
	"reflect"
	"slices"
	"strconv"
	"strings"
	"testing"

	"rungwork/api"
	"rungwork/blast"
	"rungwork/device"
	"rungwork/image"
	"rungwork/ladder"
	"rungwork/lut"
	"rungwork/plain"
	"rungwork/tree"
)

// row is numbers that are given, or come out, or types.
type row = []int

// regs and luts are registers, and tables, written out.
type (
	regs = []lut.Reg
	luts = []lut.Lut
)

// parse reads a program that must be of the right form.
func parse(t *testing.T, text string) api.Program {
	t.Helper()
	p, err := tree.Parse(text)
	if err != nil {
		e, at := plain.Place(err)
		t.Fatalf("%.300q: error %d at %d", text, e, at)
	}
	return p
}

// built is the image of a program of which nothing may be found.
func built(t *testing.T, p api.Program) string {
	t.Helper()
	s, err := device.Build(p)
	if err != nil {
		e, at := plain.Place(err)
		t.Fatalf("%.300q: error %d at %d", tree.Print(p), e, at)
	}
	return s
}

// types are the types of what a program declares in a way, in order.
func types(p api.Program, way int) row {
	var l row
	for _, d := range p.Decls {
		if d.Way == way {
			l = append(l, d.Type)
		}
	}
	return l
}

// put is an image in a device of such types.
func put(t *testing.T, s string, in, out row) *device.Device {
	t.Helper()
	d, err := device.New(s, in, out)
	if err != nil || d == nil {
		e, at := plain.Place(err)
		t.Fatalf("% .90x in a device of %v, %v: error %d at %d", s, in, out, e, at)
	}
	return d
}

// deviceOf is a program's device at first.
func deviceOf(t *testing.T, p api.Program) *device.Device {
	t.Helper()
	return put(t, built(t, p), types(p, api.In), types(p, api.Out))
}

// written is a net's image.
func written(t *testing.T, n *lut.Net) string {
	t.Helper()
	s, err := image.Write(n)
	if err != nil {
		t.Fatalf("%v is no net", *n)
	}
	return s
}

// unbuilt asks for an error of Build, just Blast's, and for nothing beside it.
func unbuilt(t *testing.T, p api.Program, want api.Errno, place int) {
	t.Helper()
	s, err := device.Build(p)
	if e, at := plain.Place(err); e != want || at != place || s != "" {
		t.Errorf("%.300q: error %d at %d, % .30x, want error %d at %d", tree.Print(p), e, at, s, want, place)
	}
	if _, same := blast.Blast(p); !reflect.DeepEqual(err, same) {
		t.Errorf("%.300q: not Blast's error", tree.Print(p))
	}
}

// all are declarations of each way and type, in no order of theirs.
const all = "in a: bool; out q: bool = true; timer t; in n: byte; var k: byte = 7; counter c; out m: byte = 200; in b: bool; edge e; var v: bool = true; "

// Promise 11.1 (7.1): Build of programs in which something is found: Blast's errors, with their places.
func TestBuildErrors(t *testing.T) {
	for _, c := range []struct {
		text string
		want api.Errno
		at   int
	}{
		{"in a: bool; out a: bool; begin end", api.ErrTwice, 1},
		{"in a: bool; out b: byte; timer b; begin q := 1; end", api.ErrTwice, 2},
		{all + "begin x := true; end", api.ErrMissing, len(all) + 6},
		{all + "begin t := true; end", api.ErrArg, len(all) + 6},
		{all + "begin q := n; end", api.ErrArg, len(all) + 11},
		{all + "begin if n then end; end", api.ErrArg, len(all) + 9},
		{all + "begin q := e.et; end", api.ErrName, len(all) + 11},
		{all + "begin a := true; end", api.ErrState, len(all) + 6},
		{all + "begin c(a, 3); end", api.ErrRange, len(all) + 6},
		{all + "begin if false then q := 3; end; end", api.ErrArg, len(all) + 25},
	} {
		unbuilt(t, parse(t, c.text), c.want, c.at)
	}
	p := parse(t, "in a: bool; out q: bool; begin end")
	rungs, err := ladder.Parse("a (q)\n\na [/a|z] (S q)")
	if err != nil {
		t.Fatal(api.Tell(err))
	}
	unbuilt(t, api.Program{Decls: p.Decls, Body: ladder.Body(rungs)}, api.ErrMissing, 1)
}

// Promise 11.1 (7.1): Build of what is too much: ErrLimit alone; up to there an image.
func TestBuildLimit(t *testing.T) {
	p := parse(t, "in n: byte; out m: byte; begin m := m + n; end")
	unbuilt(t, api.Program{Decls: p.Decls, Body: slices.Repeat(p.Body, 5000)}, api.ErrLimit, -1)
	for _, way := range []int{api.In, api.Out} {
		var p api.Program
		for i := range api.MaxNodes / 8 {
			p.Decls = append(p.Decls, api.Decl{Name: "n" + strconv.Itoa(i), Way: way, Type: api.Byte, Init: i % 256 * (way - 1)})
		}
		d := deviceOf(t, p)
		out := d.Step(nil)
		if len(out) != (way-1)*api.MaxNodes/8 {
			t.Errorf("%d numbers come out", len(out))
		}
		for i, n := range out {
			if n != i%256 {
				t.Fatalf("number %d is %d", i, n)
			}
		}
		p.Decls = append(p.Decls, api.Decl{Name: "a", Way: way, Type: api.Bool})
		unbuilt(t, p, api.ErrLimit, -1)
	}
}

// Promise 11.1 (10.1): what Build tells is an image, of just the bits of what is given, and comes out; the same each time.
func TestBuildBits(t *testing.T) {
	for _, c := range []struct {
		text       string
		given, out int
	}{
		{"begin end", 0, 0}, {"in a: bool; begin end", 1, 0}, {"in n: byte; in a: bool; in o: byte; begin end", 17, 0}, {"out q: bool; begin end", 0, 1},
		{"out m: byte; out q: bool; begin end", 0, 9}, {"var v: bool; var k: byte; timer t; counter c; edge e; begin end", 0, 0}, {all + "begin end", 10, 9},
		{all + "begin t(a, 3); c(b, t.q, 2); e(v); v := a; m := m + n; q := c.q or e.q; end", 10, 9},
	} {
		s := built(t, parse(t, c.text))
		n, err := image.Parse(s)
		if err != nil || n.Given != c.given || len(n.Outs) != c.out {
			t.Errorf("%q: error %d, %v, want %d given, %d out", c.text, api.Tell(err), n, c.given, c.out)
		}
		if again := built(t, parse(t, c.text)); again != s {
			t.Errorf("%q: % x, then % x", c.text, s, again)
		}
	}
	if s := built(t, api.Program{}); s != "\x00\x00\x00\x00" {
		t.Errorf("the empty program: % x", s)
	}
}

// unput asks for an error of New, and for no device beside it.
func unput(t *testing.T, what, s string, in, out row, want api.Errno) {
	t.Helper()
	d, err := device.New(s, in, out)
	if e, at := plain.Place(err); e != want || at != -1 || d != nil {
		t.Errorf("%s: % .30x, of %v, %v: error %d at %d, device %v, want error %d", what, s, in, out, e, at, d != nil, want)
	}
}

// example is an image of the document: two bits given, a register, a table, one bit out.
const example = "\x02\x01\x01\x03\x01\x02\x00\x02\x06\x01\x03"

// nine is a net of nine bits given, which come out.
func nine() *lut.Net { return &lut.Net{Given: 9, Outs: row{0, 1, 2, 3, 4, 5, 6, 7, 8}} }

// Promise 11.1: a type that is neither Bool nor Byte, wherever it stands, ahead of all else.
func TestNewTypes(t *testing.T) {
	s := written(t, nine())
	put(t, s, row{api.Bool, api.Byte}, row{api.Byte, api.Bool})
	for _, kind := range []int{math.MinInt, -8, -1, 0, api.Timer, api.Counter, api.Edge, 6, 8, 257, 1<<32 + 1, 1<<32 + 2, math.MaxInt} {
		what := "type " + strconv.Itoa(kind)
		for i := range 3 {
			l := slices.Insert(row{api.Byte, api.Bool}, i, kind)
			unput(t, what, s, l, row{api.Byte, api.Bool}, api.ErrArg)
			unput(t, what, s, row{api.Byte, api.Bool}, l, api.ErrArg)
			unput(t, what, s, l, l, api.ErrArg)
			unput(t, what+", no image", "", l, nil, api.ErrArg)
			unput(t, what+", no image", s[1:], nil, l, api.ErrArg)
		}
		unput(t, what, "\x00\x00\x00\x00", row{kind}, nil, api.ErrArg)
		unput(t, what, "\x00\x00\x00\x00", nil, row{kind}, api.ErrArg)
	}
}

// Promise 11.1 (10.1): bytes that are no image, ahead of how many bits there are.
func TestNewForm(t *testing.T) {
	put(t, example, row{api.Bool, api.Bool}, row{api.Bool})
	for i := range len(example) {
		unput(t, "a beginning", example[:i], row{api.Bool, api.Bool}, row{api.Bool}, api.ErrForm)
		unput(t, "a beginning, and another number", example[:i], row{api.Byte}, row{api.Byte}, api.ErrForm)
	}
	for _, s := range []string{example + "\x00", example + example, "\x00" + example, "\x00\x00\x00", "\x80\x00\x00\x00\x00", "\x00\x00\x00\x01\x00", "\x00\x00\x01\x05\x00\x00\x00\x00\x00\x00\x00", "\xa1\x9c\x01\x00\x00\x00", "device", strings.Repeat("\xff", 99)} {
		unput(t, "no image", s, row{api.Bool, api.Bool}, row{api.Bool}, api.ErrForm)
		unput(t, "no image", s, nil, nil, api.ErrForm)
	}
}

// Promise 11.1: Given, or how many Outs there are, must be just the bits of the types.
func TestNewRange(t *testing.T) {
	put(t, "\x00\x00\x00\x00", nil, nil)
	put(t, "\x00\x00\x00\x00", row{}, row{})
	const a, n = api.Bool, api.Byte
	right := []row{{n, a}, {a, n}, {a, a, a, a, a, a, a, a, a}}
	wrong := []row{nil, {}, {a}, {n}, {a, a}, {n, n}, {n, a, a}, {a, n, a}, {a, n, n}, {n, n, a}, {a, a, a, a, a, a, a, a}, {a, a, a, a, a, a, a, a, a, a}}
	s := written(t, nine())
	for _, r := range right {
		for _, l := range right {
			put(t, s, r, l)
		}
		for _, w := range wrong {
			unput(t, "given", s, w, r, api.ErrRange)
			unput(t, "out", s, r, w, api.ErrRange)
			unput(t, "both", s, w, w, api.ErrRange)
		}
	}
	s = written(t, &lut.Net{Given: 1, Outs: slices.Repeat(row{0}, 8)})
	put(t, s, row{a}, row{n})
	unput(t, "the other way round", s, row{n}, row{a}, api.ErrRange)
	for _, l := range []row{nil, {a}, {n}} {
		if len(l) > 0 {
			unput(t, "nothing given", "\x00\x00\x00\x00", l, nil, api.ErrRange)
			unput(t, "nothing out", "\x00\x00\x00\x00", nil, l, api.ErrRange)
		}
	}
	greatest := written(t, &lut.Net{Given: api.MaxNodes, Outs: make(row, api.MaxNodes)})
	bytes := slices.Repeat(row{n}, api.MaxNodes/8)
	put(t, greatest, bytes, slices.Repeat(row{a}, api.MaxNodes))
	unput(t, "one more given", greatest, append(slices.Clone(bytes), a), bytes, api.ErrRange)
	unput(t, "one more out", greatest, bytes, append(slices.Clone(bytes), a), api.ErrRange)
	unput(t, "far more", greatest, slices.Repeat(row{n}, 100*api.MaxNodes), bytes, api.ErrRange)
}

// Promise P1: what New answers beside an error panics nowhere, and holds nothing.
func TestNoDevice(t *testing.T) {
	d, _ := device.New("", nil, nil)
	if l := d.Step(row{1, 2}); len(l) > 0 {
		t.Errorf("%v", l)
	}
	if s := d.Save(); s != "" {
		t.Errorf("%q", s)
	}
	if api.Tell(d.Load("")) != api.ErrArg || api.Tell(d.Load("1")) != api.ErrArg || api.Tell(d.Load("x")) != api.ErrForm {
		t.Error("it may not be loaded")
	}
}

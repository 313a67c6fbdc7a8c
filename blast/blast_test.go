package blast_test

import (
	"reflect"
	"slices"
	"strconv"
	"strings"
	"testing"

	"rungwork/api"
	"rungwork/blast"
	"rungwork/check"
	"rungwork/gate"
	"rungwork/ladder"
	"rungwork/plain"
	"rungwork/scan"
	"rungwork/tree"
	"rungwork/value"
)

// row is numbers that are given, or come out.
type row = []int

// all are declarations of each way and type, in no order of theirs.
const all = "in a: bool; out q: bool = true; timer t; in n: byte; var k: byte = 7; counter c; out m: byte = 200; in b: bool; edge e; var v: bool = true; "

// parse reads a program that must be of the right form.
func parse(t *testing.T, text string) api.Program {
	t.Helper()
	p, err := tree.Parse(text)
	if err != nil {
		e, at := plain.Place(err)
		t.Fatalf("%q: error %d at %d", text, e, at)
	}
	return p
}

// blasted is the net of a program of which nothing may be found.
func blasted(t *testing.T, p api.Program) *gate.Net {
	t.Helper()
	n, err := blast.Blast(p)
	if err != nil || !n.Right() {
		e, at := plain.Place(err)
		t.Fatalf("%.300q: error %d at %d, or it is not Right", tree.Print(p), e, at)
	}
	return n
}

// both is a program's plant, and its net, which are asked side by side.
type both struct {
	text  string
	decls []api.Decl
	plant *scan.Plant
	net   *gate.Sim
}

// made makes both of a program.
func made(t *testing.T, p api.Program) *both {
	t.Helper()
	x, err := scan.New(p)
	if err != nil {
		t.Fatalf("%.300q: no plant", tree.Print(p))
	}
	s, err := gate.New(blasted(t, p))
	if err != nil {
		t.Fatalf("%.300q: no net", tree.Print(p))
	}
	return &both{text: tree.Print(p), decls: p.Decls, plant: x, net: s}
}

// given are the bits of numbers, of the types of In, in order.
func given(decls []api.Decl, l row) []bool {
	var bits []bool
	for _, d := range decls {
		if d.Way != api.In {
			continue
		}
		n := 0
		if len(l) > 0 {
			n, l = l[0], l[1:]
		}
		bits = append(bits, value.Bits(d.Type, n)...)
	}
	return bits
}

// let are the numbers of bits, of the types of Out, in order.
func let(t *testing.T, decls []api.Decl, bits []bool) row {
	t.Helper()
	var l row
	for _, d := range decls {
		if d.Way != api.Out {
			continue
		}
		w := value.Width(d.Type)
		if len(bits) < w {
			t.Fatalf("%d bits are left, want %d", len(bits), w)
		}
		l, bits = append(l, value.Of(bits[:w])), bits[w:]
	}
	if len(bits) > 0 {
		t.Fatalf("%d bits are left over", len(bits))
	}
	return l
}

// step asks for one cycle of both; they must let out the same, which is told.
func (x *both) step(t *testing.T, l row) row {
	t.Helper()
	want := x.plant.Step(l)
	got := let(t, x.decls, x.net.Step(given(x.decls, l)))
	if !slices.Equal(got, want) {
		t.Fatalf("of %v: %v, want %v: %.600s", l, got, want, x.text)
	}
	return got
}

// cycles asks a program's net for what it lets out, cycle by cycle: rows by twos, what is given and what comes out.
func cycles(t *testing.T, text string, l ...row) {
	t.Helper()
	x := made(t, parse(t, text))
	for i := 0; i+1 < len(l); i += 2 {
		if got := x.step(t, l[i]); !slices.Equal(got, l[i+1]) {
			t.Errorf("%s: cycle %d, of %v: %v, want %v", text, i/2, l[i], got, l[i+1])
		}
	}
}

// Promise 7.1: Check's errors, with their places, and no net beside them.
func TestErrors(t *testing.T) {
	for _, c := range []struct {
		text string
		want api.Errno
		at   int
	}{
		{"in a: bool; out a: bool; begin end", api.ErrTwice, 1},
		{"in a: bool; out b: byte; timer b; begin q := 1; end", api.ErrTwice, 2},
		{all + "begin x := true; end", api.ErrMissing, len(all) + 6},
		{all + "begin t := true; end", api.ErrArg, len(all) + 6},
		{all + "begin q := t; end", api.ErrArg, len(all) + 11},
		{all + "begin q := n; end", api.ErrArg, len(all) + 11},
		{all + "begin q := q or n; end", api.ErrArg, len(all) + 11},
		{all + "begin if n then end; end", api.ErrArg, len(all) + 9},
		{all + "begin q := e.et; end", api.ErrName, len(all) + 11},
		{all + "begin a := true; end", api.ErrState, len(all) + 6},
		{all + "begin c(a, 3); end", api.ErrRange, len(all) + 6},
		{all + "begin e(a, 3); end", api.ErrRange, len(all) + 6},
		{all + "begin if false then q := 3; end; end", api.ErrArg, len(all) + 25},
	} {
		p := parse(t, c.text)
		n, err := blast.Blast(p)
		if e, at := plain.Place(err); e != c.want || at != c.at || n != nil {
			t.Errorf("%q: error %d at %d, net %v, want error %d at %d", c.text, e, at, n, c.want, c.at)
		}
		if !reflect.DeepEqual(err, check.Check(p)) {
			t.Errorf("%q: not Check's error", c.text)
		}
	}
}

// Promise 7.1: Given bits are those of each In, and Outs those of each Out, in order, the least first.
func TestOrderOfBits(t *testing.T) {
	p := parse(t, "out m: byte = 5; in a: bool; var k: byte; in n: byte; out q: bool; timer t; in b: bool; out r: bool; begin m := n; q := a; r := b; end")
	n := blasted(t, p)
	if n.Given != 10 || len(n.Outs) != 10 {
		t.Fatalf("%d bits given, %d out, want 10 of each", n.Given, len(n.Outs))
	}
	s, err := gate.New(n)
	if err != nil {
		t.Fatal(err)
	}
	// out: eight of m, then q, then r; given: a, then eight of n, then b.
	from := []int{1, 2, 3, 4, 5, 6, 7, 8, 0, 9}
	for i := range 10 {
		bits := make([]bool, 10)
		bits[i] = true
		for out, bit := range s.Step(bits) {
			if bit != (from[out] == i) {
				t.Errorf("bit %d given: bit %d out is %v", i, out, bit)
			}
		}
	}
}

// Promise 7.1: how many bits are given, and come out, whether somebody asks for them or not.
func TestHowManyBits(t *testing.T) {
	for _, c := range []struct {
		text       string
		given, out int
	}{
		{"begin end", 0, 0}, {"in a: bool; begin end", 1, 0}, {"in n: byte; in a: bool; in o: byte; begin end", 17, 0}, {"out q: bool; begin end", 0, 1},
		{"out m: byte; out q: bool; begin end", 0, 9}, {"var v: bool; var k: byte; timer t; counter c; edge e; begin end", 0, 0}, {all + "begin end", 10, 9},
		{all + "begin v := a; q := v; end", 10, 9},
	} {
		n := blasted(t, parse(t, c.text))
		if n.Given != c.given || len(n.Outs) != c.out {
			t.Errorf("%q: %d given, %d out, want %d and %d", c.text, n.Given, len(n.Outs), c.given, c.out)
		}
	}
	n, err := blast.Blast(api.Program{})
	if err != nil || !n.Right() || n.Given != 0 || len(n.Outs) != 0 {
		t.Errorf("the empty program: %v, %v", n, err)
	}
}

// Promise 7.1 (5.1): each Out and Var is its Init at first, and stays it until it is set.
func TestAtFirst(t *testing.T) {
	for _, n := range []int{0, 1, 2, 85, 127, 128, 170, 200, 254, 255} {
		s := strconv.Itoa(n)
		cycles(t, "out m: byte = "+s+"; out q: bool = true; out r: bool = false; begin end", nil, row{n, 1, 0}, nil, row{n, 1, 0})
		cycles(t, "var k: byte = "+s+"; out m: byte; begin m := k; end", nil, row{n}, nil, row{n})
		cycles(t, "in a: bool; out m: byte = "+s+"; begin if a then m := 3; end; end", row{0}, row{n}, row{0}, row{n}, row{1}, row{3}, row{0}, row{3})
		cycles(t, "out m: byte = "+s+"; out r: byte; begin r := m; end", nil, row{n, n}, nil, row{n, n})
	}
	cycles(t, "var v: bool = true; out q: bool; begin q := v; v := not v; end", nil, row{1}, nil, row{0}, nil, row{1})
	cycles(t, "var v: bool; out q: bool; begin q := v; v := not v; end", nil, row{0}, nil, row{1}, nil, row{0})
	cycles(t, "out q: bool; out r: bool; out s: bool; out m: byte; timer t; counter c; edge e; begin q := t.q; r := c.q; s := e.q; m := t.et + c.cv; end", nil, row{0, 0, 0, 0}, nil, row{0, 0, 0, 0})
}

// Promise 7.1 (5.1): what is missing is 0; it is not what was given in the cycle ahead.
func TestMissing(t *testing.T) {
	cycles(t, "in n: byte; in a: bool; out m: byte; out q: bool; begin m := n; q := not a; end", row{7, 1}, row{7, 0}, nil, row{0, 1}, row{9}, row{9, 1}, row{-1, -1}, row{255, 0}, row{256, 2}, row{0, 1})
	s, err := gate.New(blasted(t, parse(t, "in a: bool; in n: byte; out m: byte; begin m := n; end")))
	if err != nil {
		t.Fatal(err)
	}
	for many := range 12 {
		bits := slices.Repeat([]bool{true}, many)
		if got, want := value.Of(s.Step(bits)), 1<<min(max(many-1, 0), 8)-1; got != want {
			t.Errorf("%d bits given: %d, want %d", many, got, want)
		}
	}
}

// Promise 7.1 (5.1): statements are done one behind the other, from cycle to cycle.
func TestOneBehindTheOther(t *testing.T) {
	cycles(t, "out m: byte; out r: byte; begin m := m + 1; r := m; m := m + 1; end", nil, row{2, 1}, nil, row{4, 3}, nil, row{6, 5})
	cycles(t, "in n: byte; out m: byte; var k: byte; begin m := k; k := n; end", row{5}, row{0}, row{6}, row{5}, row{7}, row{6})
	cycles(t, "out m: byte = 1; out r: byte = 2; var k: byte; begin k := m; m := r; r := k; end", nil, row{2, 1}, nil, row{1, 2})
	cycles(t, "out m: byte; begin m := 9; m := m + m; end", nil, row{18}, nil, row{18})
	cycles(t, "in a: bool; out q: bool; out r: bool; begin r := q; q := a; end", row{1}, row{1, 0}, row{0}, row{0, 1}, row{0}, row{0, 0})
}

// Promise 7.1 (5.1): an If does one way alone, as its Value was ahead of it.
func TestIf(t *testing.T) {
	cycles(t, "in a: bool; in b: bool; out m: byte; begin if a then m := 1; elsif b then m := 2; else m := 3; end; end",
		row{0, 0}, row{3}, row{0, 1}, row{2}, row{1, 0}, row{1}, row{1, 1}, row{1})
	cycles(t, "in a: bool; in b: bool; out m: byte = 9; begin if a then if b then m := 1; end; else if b then m := 2; end; end; end",
		row{0, 0}, row{9}, row{1, 0}, row{9}, row{1, 1}, row{1}, row{0, 0}, row{1}, row{0, 1}, row{2}, row{1, 0}, row{2})
	cycles(t, "out q: bool; out m: byte; begin if q then q := false; m := m + 1; else q := true; m := m + 10; end; end", nil, row{1, 10}, nil, row{0, 11}, nil, row{1, 21})
	cycles(t, "in a: bool; out m: byte; out r: byte; begin if a then m := m + 1; r := m; m := m + 1; else r := m; m := 50; end; end",
		row{1}, row{2, 1}, row{1}, row{4, 3}, row{0}, row{50, 4}, row{1}, row{52, 51})
	cycles(t, "in a: bool; out m: byte; begin if a then else m := m + 1; end; end", row{0}, row{1}, row{1}, row{1}, row{0}, row{2})
	cycles(t, "out m: byte; begin if true then m := 1; else m := 2; end; if false then m := 5; end; if not true then m := 6; else m := m + 2; end; end", nil, row{3}, nil, row{3})
	cycles(t, "in a: bool; in b: bool; out q: bool; begin if a then if not a then q := true; end; end; if a then if a then if b then q := not q; end; end; end; end",
		row{1, 0}, row{0}, row{1, 1}, row{1}, row{0, 1}, row{1}, row{1, 1}, row{0})
}

// Promise 7.1 (1.1): each mark, of bits and of bytes, of what is given on both sides, and of a number on one of them.
func TestMarks(t *testing.T) {
	edges := row{0, 1, 2, 6, 10, 85, 100, 127, 128, 129, 170, 200, 250, 254, 255}
	for _, op := range []string{"and", "or", "xor", "=", "<>", "<", "<=", ">", ">=", "+", "-"} {
		for kind, word := range []string{api.Bool: "bool", api.Byte: "byte"} {
			if value.Result(op, kind, kind) == 0 {
				continue
			}
			out := []string{api.Bool: "bool", api.Byte: "byte"}[value.Result(op, kind, kind)]
			x := made(t, parse(t, "in a: "+word+"; in b: "+word+"; out m: "+out+"; begin m := a "+op+" b; end"))
			for _, a := range edges {
				for _, b := range edges {
					if got := x.step(t, row{a, b}); got[0] != value.Two(op, kind, a, b) {
						t.Errorf("%d %s %d: %d", a, op, b, got[0])
					}
				}
			}
		}
	}
	for n := range 256 {
		cycles(t, "in a: bool; in n: byte; out q: bool; out m: byte; out r: byte; begin q := not a; m := not n; r := not not n; end", row{n, n}, row{1 - n%2, 255 - n, n})
	}
}

// Promise 7.1 (1.1): marks of what is known, on either side or on both.
func TestMarksOfNumbers(t *testing.T) {
	for _, op := range []string{"and", "or", "xor", "+", "-"} {
		for _, k := range []int{0, 1, 2, 100, 127, 128, 254, 255} {
			s := strconv.Itoa(k)
			x := made(t, parse(t, "in n: byte; out m: byte; out r: byte; out s: byte; out u: byte; begin m := n "+op+" "+s+"; r := "+s+" "+op+" n; s := "+s+" "+op+" 77; u := n "+op+" n; end"))
			for n := range 256 {
				want := row{value.Two(op, api.Byte, n, k), value.Two(op, api.Byte, k, n), value.Two(op, api.Byte, k, 77), value.Two(op, api.Byte, n, n)}
				if got := x.step(t, row{n}); !slices.Equal(got, want) {
					t.Fatalf("%s of %d and %d: %v, want %v", op, n, k, got, want)
				}
			}
		}
	}
	for _, op := range []string{"=", "<>", "<", "<=", ">", ">="} {
		for _, k := range []int{0, 1, 2, 100, 127, 128, 254, 255} {
			s := strconv.Itoa(k)
			x := made(t, parse(t, "in n: byte; out q: bool; out r: bool; out s: bool; out u: bool; begin q := n "+op+" "+s+"; r := "+s+" "+op+" n; s := "+s+" "+op+" 77; u := n "+op+" n; end"))
			for n := range 256 {
				want := row{value.Two(op, api.Byte, n, k), value.Two(op, api.Byte, k, n), value.Two(op, api.Byte, k, 77), value.Two(op, api.Byte, n, n)}
				if got := x.step(t, row{n}); !slices.Equal(got, want) {
					t.Fatalf("%s of %d and %d: %v, want %v", op, n, k, got, want)
				}
			}
		}
	}
}

// Promise 7.1 (1.1): marks of a bit and what is known, of itself, and of its other one.
func TestMarksOfOneBit(t *testing.T) {
	for _, c := range []struct {
		text string
		of   [2]int
	}{
		{"a and true", [2]int{0, 1}}, {"true and a", [2]int{0, 1}}, {"a and false", [2]int{0, 0}}, {"false and a", [2]int{0, 0}}, {"a and a", [2]int{0, 1}}, {"a and not a", [2]int{0, 0}}, {"not a and a", [2]int{0, 0}},
		{"a or true", [2]int{1, 1}}, {"true or a", [2]int{1, 1}}, {"a or false", [2]int{0, 1}}, {"false or a", [2]int{0, 1}}, {"a or a", [2]int{0, 1}}, {"a or not a", [2]int{1, 1}}, {"not a or a", [2]int{1, 1}},
		{"a xor true", [2]int{1, 0}}, {"true xor a", [2]int{1, 0}}, {"a xor false", [2]int{0, 1}}, {"false xor a", [2]int{0, 1}}, {"a xor a", [2]int{0, 0}}, {"a xor not a", [2]int{1, 1}}, {"not a xor a", [2]int{1, 1}},
		{"not not a", [2]int{0, 1}}, {"not not not a", [2]int{1, 0}}, {"not true or a", [2]int{0, 1}}, {"not false and a", [2]int{0, 1}}, {"not a and not a", [2]int{1, 0}}, {"(not a) = (not a)", [2]int{1, 1}}, {"a = not a", [2]int{0, 0}},
		{"not a xor true", [2]int{0, 1}}, {"true", [2]int{1, 1}}, {"false", [2]int{0, 0}}, {"a", [2]int{0, 1}},
	} {
		cycles(t, "in a: bool; out q: bool; begin q := "+c.text+"; end", row{0}, row{c.of[0]}, row{1}, row{c.of[1]})
	}
}

// Promise 7.1: the same gate, the other way round, and gates of the same nodes, are told apart as they must be.
func TestAlike(t *testing.T) {
	cycles(t, "in a: bool; in b: bool; out q: bool; out r: bool; out s: bool; out u: bool; begin q := a and b; r := b and a; s := b or a; u := b xor a; end",
		row{0, 0}, row{0, 0, 0, 0}, row{0, 1}, row{0, 0, 1, 1}, row{1, 0}, row{0, 0, 1, 1}, row{1, 1}, row{1, 1, 1, 0})
	cycles(t, "in n: byte; in o: byte; out m: byte; out r: byte; out q: bool; out s: bool; begin m := n - o; r := o - n; q := n < o; s := o < n; end",
		row{3, 5}, row{254, 2, 1, 0}, row{5, 3}, row{2, 254, 0, 1}, row{4, 4}, row{0, 0, 0, 0})
	cycles(t, "in a: bool; out q: bool; out r: bool; begin r := q; if a then q := true; end; end", row{0}, row{0, 0}, row{1}, row{1, 0}, row{0}, row{1, 1})
}

// Promise 7.1: a rung's statements as a net.
func TestRungs(t *testing.T) {
	decls, err := tree.Decls("in a: bool; in b: bool; in c: bool; in d: bool; out q: bool; out r: bool;")
	if err != nil {
		t.Fatal(err)
	}
	l, err := ladder.Parse("a [/b|c d] (S q)\nd (R q)\nq /a (r)\n")
	if err != nil {
		t.Fatal(err)
	}
	x := made(t, api.Program{Decls: decls, Body: ladder.Body(l)})
	for i := range 48 {
		x.step(t, row{i, i / 2, i / 4, i / 8})
	}
	if got := x.step(t, row{1, 0, 0, 0}); !slices.Equal(got, row{1, 0}) {
		t.Errorf("latched: %v", got)
	}
	if got := x.step(t, row{0, 1, 0, 0}); !slices.Equal(got, row{1, 1}) {
		t.Errorf("held: %v", got)
	}
}

// Promise 7.1, P3: a program that needs too many nodes: ErrLimit, with no place, and no net beside it; up to there a net, which does what is meant.
func TestLimit(t *testing.T) {
	p := parse(t, "in n: byte; out m: byte; begin m := m + n; end")
	many := func(k int) api.Program { return api.Program{Decls: p.Decls, Body: slices.Repeat(p.Body, k)} }
	last := 0
	for k := 500; ; k++ {
		n, err := blast.Blast(many(k))
		if err != nil {
			tooMuch(t, many(k))
			break
		}
		if !n.Right() || len(n.Nodes) > api.MaxNodes {
			t.Fatalf("%d statements: %d nodes", k, len(n.Nodes))
		}
		last = k
	}
	if last == 0 {
		t.Fatal("500 statements are too many")
	}
	x := made(t, many(last))
	for i := range 20 {
		x.step(t, row{i * 13})
	}
	tooMuch(t, many(last+2))
	tooMuch(t, many(10*last))
	tooMuch(t, many(100*last))
	q := many(10 * last)
	q.Body = append(q.Body, parse(t, "out m: byte; begin m := true; end").Body...)
	if _, err := blast.Blast(q); api.Tell(err) != api.ErrArg {
		t.Errorf("what is found is told ahead of what is too much: %v", err)
	}
}

// Promise 7.1 (6.1): the last net that may be has just MaxNodes nodes; with one more there is none.
func TestLastNode(t *testing.T) {
	p := parse(t, "out q: bool; var v: bool; begin q := v; end")
	decls, body := p.Decls[:1:1], []api.Stmt{}
	for i := range api.MaxNodes + 5 {
		d, s, x := p.Decls[1], p.Body[0], *p.Body[0].Value
		d.Name = "v" + strconv.Itoa(i)
		x.Name, s.Value = d.Name, &x
		decls, body = append(decls, d), append(body, s)
	}
	most := 0
	for many := api.MaxNodes - 5; many < len(body); many++ {
		p := api.Program{Decls: decls, Body: body[:many]}
		if n, err := blast.Blast(p); err == nil && n.Right() && len(n.Nodes) > most {
			most = len(n.Nodes)
		} else {
			tooMuch(t, p)
		}
	}
	if most != api.MaxNodes {
		t.Errorf("the last net has %d nodes", most)
	}
}

// tooMuch asks for ErrLimit alone.
func tooMuch(t *testing.T, p api.Program) {
	t.Helper()
	n, err := blast.Blast(p)
	if e, at := plain.Place(err); e != api.ErrLimit || at != -1 || n != nil {
		t.Errorf("error %d at %d, net %v, want ErrLimit alone", e, at, n != nil)
	}
}

// Promise 7.1 (6.1): more bits are given, or come out, than a net may have: there is none that is Right.
func TestTooManyBits(t *testing.T) {
	for _, way := range []int{api.In, api.Out} {
		var p api.Program
		for i := range api.MaxNodes / 8 {
			p.Decls = append(p.Decls, api.Decl{Name: "n" + strconv.Itoa(i), Way: way, Type: api.Byte, Init: 0})
		}
		n := blasted(t, p)
		if n.Given+len(n.Outs) != api.MaxNodes {
			t.Errorf("%d bits are given, %d come out", n.Given, len(n.Outs))
		}
		p.Decls = append(p.Decls, api.Decl{Name: "a", Way: way, Type: api.Bool})
		tooMuch(t, p)
		p.Decls = append(p.Decls, p.Decls[0])
		if _, err := blast.Blast(p); api.Tell(err) != api.ErrTwice {
			t.Errorf("what is found is told ahead of what is too much: %v", err)
		}
	}
	var p api.Program
	for i := range api.MaxNodes/8 + 1 {
		p.Decls = append(p.Decls, api.Decl{Name: "k" + strconv.Itoa(i), Way: api.Var, Type: api.Byte, Init: 3})
	}
	blasted(t, p)
}

// tokens counts the tokens of a text.
func tokens(text string) int {
	many, word := 0, false
	for i, c := range text {
		letter := strings.ContainsRune("abcdefghijklmnopqrstuvwxyz_0123456789", c)
		second := i > 0 && slices.Contains([]string{":=", "<>", "<=", ">="}, text[i-1:i+1])
		if c != ' ' && !(letter && word) && !second {
			many++
		}
		word = letter
	}
	return many
}

// Promise 7.1: of programs of at most 200 tokens it is never too much, whatever they are full of.
func TestTwoHundredTokens(t *testing.T) {
	head := "in n: byte; in a: bool; out m: byte; out q: bool; var k: byte; timer t; counter c; edge e; begin "
	for _, s := range []string{
		"m := m + n; ", "m := m - k; k := k + m; ", "m := n - m - k; ", "q := m + n < k - n; k := k + m; ", "t(a, 85); m := m + t.et; ", "c(q, a, 170); q := t.q; ", "c(m < k, m > k, 85); m := m + c.cv; ",
		"if q then t(q, 85); end; q := m = k; ", "if m < k then m := m + n; k := k - m; end; ", "if a then if q then m := n - m; else k := m - k; end; end; ", "e(e.q xor q); q := e.q; ", "m := m + (n - (k - (m + n))); ", "k := not (m + k) xor n; m := k - m; ",
		"if m < 9 then t(a, 9); elsif m < 99 then c(a, q, 9); elsif k < m then e(q); else k := k - m; end; ",
	} {
		text := head
		for tokens(text+s+"end") <= 200 {
			text += s
		}
		x := made(t, parse(t, text+"end"))
		for i := range 30 {
			x.step(t, row{i * 37, i * i / 3})
		}
	}
	long := "in n: byte; in o: byte; out m: byte; begin m := m"
	for i := 0; tokens(long+" + n; end") <= 200; i++ {
		long += []string{" + n", " - o", " + m"}[i%3]
	}
	x := made(t, parse(t, long+"; end"))
	for i := range 30 {
		x.step(t, row{i * 37, i * 11})
	}
	if got := tokens("in n:byte;begin m:=m<>(n+12)<=t.et;end"); got != 21 {
		t.Errorf("%d tokens are counted", got)
	}
}

// Promise P4: the program is not written into, the same is answered each time, and what is answered is the caller's.
func TestFresh(t *testing.T) {
	text := all + "begin t(a, 3); c(b, t.q, 2); e(a xor b); if e.q then m := m + n; else k := m - k; end; q := v and k < m; end"
	p, q := parse(t, text), parse(t, text)
	n := blasted(t, p)
	if !reflect.DeepEqual(p, q) {
		t.Error("the program is another one")
	}
	was := gate.Net{Given: n.Given, Nodes: slices.Clone(n.Nodes), Outs: slices.Clone(n.Outs)}
	clear(n.Nodes)
	clear(n.Outs)
	for range 20 {
		if again := blasted(t, p); !reflect.DeepEqual(*again, was) {
			t.Fatal("another net is answered")
		}
	}
	behind := append(slices.Clone(p.Decls), api.Decl{Name: "behind", Way: api.In, Type: api.Byte})
	body := append(slices.Clone(p.Body), p.Body[0])
	short := api.Program{Decls: behind[:len(p.Decls)], Body: body[:len(p.Body)]}
	if again := blasted(t, short); !reflect.DeepEqual(*again, was) {
		t.Error("what stands behind a list's length is read")
	}
	if behind[len(p.Decls)].Name != "behind" {
		t.Error("what stands behind a list's length is written into")
	}
}

// Promise P4: nets of one program go alone; what a net does hangs on no other one.
func TestAlone(t *testing.T) {
	p := parse(t, "in a: bool; out m: byte; timer t; begin t(a, 9); m := t.et; end")
	x, y := made(t, p), made(t, p)
	x.step(t, row{1})
	x.step(t, row{1})
	if got := y.step(t, row{1}); !slices.Equal(got, row{1}) {
		t.Errorf("%v", got)
	}
}

package scan_test

import (
	"math"
	"reflect"
	"slices"
	"strconv"
	"testing"

	"rungwork/api"
	"rungwork/check"
	"rungwork/ladder"
	"rungwork/plain"
	"rungwork/scan"
	"rungwork/tree"
	"rungwork/value"
)

// parse reads a program that must be of the right form.
func parse(t *testing.T, text string) api.Program {
	t.Helper()
	p, err := tree.Parse(text)
	if err != nil {
		e, at := plain.Place(err)
		t.Fatalf("%q: error %d at %d", text, e, at)
	}
	return p
}

// plant is a plant of a program of which nothing may be found.
func plant(t *testing.T, text string) *scan.Plant {
	t.Helper()
	x, err := scan.New(parse(t, text))
	if err != nil || x == nil {
		e, at := plain.Place(err)
		t.Fatalf("%q: error %d at %d", text, e, at)
	}
	return x
}

// row is numbers that are given, or come out.
type row = []int

// step asks for what a cycle lets out.
func step(t *testing.T, what string, x *scan.Plant, given, want row) {
	t.Helper()
	if got := x.Step(given); !slices.Equal(got, want) {
		t.Errorf("%s: of %v: %v, want %v", what, given, got, want)
	}
}

// cycles asks a program for what it lets out, cycle by cycle: rows by twos, what is given and what comes out.
func cycles(t *testing.T, text string, l ...row) {
	t.Helper()
	x := plant(t, text)
	for i := 0; i+1 < len(l); i += 2 {
		step(t, text+", cycle "+strconv.Itoa(i/2), x, l[i], l[i+1])
	}
}

// is asks for what a name, or a block's field, is now.
func is(t *testing.T, x *scan.Plant, name, field string, want int) {
	t.Helper()
	if got, ok := x.Get(name, field); got != want || !ok {
		t.Errorf("Get(%q, %q) = %d, %v, want %d", name, field, got, ok, want)
	}
}

// none asks that there be no such name, or field.
func none(t *testing.T, x *scan.Plant, name, field string) {
	t.Helper()
	if got, ok := x.Get(name, field); got != 0 || ok {
		t.Errorf("Get(%q, %q) = %d, %v, want none", name, field, got, ok)
	}
}

// all are declarations of each way and type.
const all = "in a: bool; in b: bool; in n: byte; out q: bool = true; out m: byte = 200; var v: bool = true; var k: byte = 7; timer t; counter c; edge e; "

// Promise 5.1: New tells Check's errors, with their places, and no plant beside them.
func TestNewTellsCheck(t *testing.T) {
	for _, c := range []struct {
		text  string
		want  api.Errno
		place int
	}{
		{"in a: bool; timer a; begin end", api.ErrTwice, 1},
		{"in a: bool; in a: bool; begin zz := 1; end", api.ErrTwice, 1},
		{"begin q := 1; end", api.ErrMissing, 6},
		{"out q: bool; begin q := zz; end", api.ErrMissing, 24},
		{"out q: bool; begin if q then q := zz; end; end", api.ErrMissing, 34},
		{"out q: bool; begin if q then else q := zz; end; end", api.ErrMissing, 39},
		{"out q: bool; begin q := 1; end", api.ErrArg, 24},
		{"out q: bool; begin q(q); end", api.ErrArg, 19},
		{"timer t; begin t := true; end", api.ErrArg, 15},
		{"timer t; begin if t.cv = 1 then end; end", api.ErrName, 18},
		{"in a: bool; begin a := true; end", api.ErrState, 18},
		{"edge e; begin e(true, 1); end", api.ErrRange, 14},
		{"counter c; begin c(true, 1); end", api.ErrRange, 17},
	} {
		p := parse(t, c.text)
		x, err := scan.New(p)
		if e, at := plain.Place(err); x != nil || e != c.want || at != c.place {
			t.Errorf("%q: %v, error %d at %d, want %d at %d", c.text, x, e, at, c.want, c.place)
		}
		if !reflect.DeepEqual(err, check.Check(p)) {
			t.Errorf("%q: %+v, not what Check tells", c.text, err)
		}
	}
}

// Promise 5.1: what each name is at first.
func TestAtFirst(t *testing.T) {
	x := plant(t, all+"begin end")
	for name, want := range map[string]int{"a": 0, "b": 0, "n": 0, "q": 1, "m": 200, "v": 1, "k": 7} {
		is(t, x, name, "", want)
	}
	for _, name := range []string{"t", "c", "e"} {
		is(t, x, name, "q", 0)
	}
	is(t, x, "t", "et", 0)
	is(t, x, "c", "cv", 0)
	x = plant(t, "out q: bool; out m: byte; var v: bool = false; var k: byte = 255; var l: byte = 0; begin end")
	for name, want := range map[string]int{"q": 0, "m": 0, "v": 0, "k": 255, "l": 0} {
		is(t, x, name, "", want)
	}
}

// Promise 5.1: a block saw false at first: what holds from the first cycle on is an edge, and counts.
func TestSawFalseAtFirst(t *testing.T) {
	cycles(t, "out q: bool; out m: byte; edge e; counter c; begin e(true); q := e.q; c(true, false, 9); m := c.cv; end",
		nil, row{1, 1}, nil, row{0, 1}, nil, row{0, 1})
}

// Promise 5.1: Get tells none of what is not there: other names, blocks without a field, bits with one, other fields.
func TestGetNone(t *testing.T) {
	x := plant(t, all+"begin t(a, 1); c(a, b, 1); e(a); end")
	for range 2 {
		for _, name := range []string{"zz", "", "A", "a ", " a", "aa", "t.q", "t", "c", "e", "true", "in"} {
			none(t, x, name, "")
		}
		for _, name := range []string{"a", "b", "n", "q", "m", "v", "k", "zz", "", "t.", "T"} {
			for _, field := range []string{"q", "et", "cv", "a", "zz"} {
				none(t, x, name, field)
			}
		}
		for _, name := range []string{"t", "c", "e"} {
			for _, field := range []string{"zz", "Q", "q ", " q", "qq", ".q", "counted", "t", "\x00"} {
				none(t, x, name, field)
			}
		}
		none(t, x, "t", "cv")
		none(t, x, "c", "et")
		none(t, x, "e", "et")
		none(t, x, "e", "cv")
		x.Step(row{1, 0, 5})
	}
	none(t, plant(t, "begin end"), "", "")
}

// Promise 5.1: Get tells what is now: of what is given, too, and what is set in a cycle, till the next one.
func TestGetNow(t *testing.T) {
	x := plant(t, all+"begin m := n + 1; v := a; t(a, 2); c(a, b, 1); e(a); q := e.q; end")
	step(t, "first", x, row{1, 0, 255}, row{1, 0})
	for name, want := range map[string]int{"a": 1, "b": 0, "n": 255, "q": 1, "m": 0, "v": 1, "k": 7} {
		is(t, x, name, "", want)
	}
	is(t, x, "t", "et", 1)
	is(t, x, "t", "q", 0)
	is(t, x, "c", "cv", 1)
	is(t, x, "c", "q", 1)
	is(t, x, "e", "q", 1)
	step(t, "next", x, row{1, 1, 9}, row{0, 10})
	for name, want := range map[string]int{"a": 1, "b": 1, "n": 9, "q": 0, "m": 10, "v": 1, "k": 7} {
		is(t, x, name, "", want)
	}
	is(t, x, "t", "et", 2)
	is(t, x, "t", "q", 1)
	is(t, x, "c", "cv", 0)
	is(t, x, "c", "q", 0)
	is(t, x, "e", "q", 0)
}

// Promise 5.1: asking changes nothing.
func TestGetChangesNothing(t *testing.T) {
	x := plant(t, all+"begin t(a, 9); m := t.et; end")
	for i := range 9 {
		for range 3 {
			is(t, x, "t", "et", i)
			none(t, x, "zz", "")
			none(t, x, "zz", "q")
		}
		step(t, "asked", x, row{1}, row{1, i + 1})
	}
}

// Promise 5.1: each In is Cut of the next number given.
func TestGivenIsCut(t *testing.T) {
	for _, n := range []int{0, 1, 2, 3, 127, 128, 255, 256, 257, 511, -1, -2, -128, -255, -256, -257, 1 << 40, math.MaxInt, math.MinInt, math.MinInt + 1} {
		x := plant(t, "in a: bool; in n: byte; out q: bool; out m: byte; begin q := a; m := n; end")
		step(t, "cut", x, row{n, n}, row{value.Cut(api.Bool, n), value.Cut(api.Byte, n)})
		is(t, x, "a", "", value.Cut(api.Bool, n))
		is(t, x, "n", "", value.Cut(api.Byte, n))
	}
	cycles(t, "in a: bool; in n: byte; out q: bool; out m: byte; begin q := a; m := n; end",
		row{2, 256}, row{0, 0}, row{3, 260}, row{1, 4}, row{-1, -1}, row{1, 255}, row{-2, -255}, row{0, 1})
}

// Promise 5.1: what is missing is 0, each time; what is too much is nothing.
func TestGivenTooFewOrTooMany(t *testing.T) {
	cycles(t, "in a: bool; in n: byte; in b: bool; out q: bool; out m: byte; out r: bool; begin q := a; m := n; r := b; end",
		row{1, 9, 1}, row{1, 9, 1},
		row{1, 8}, row{1, 8, 0},
		row{1}, row{1, 0, 0},
		row{1, 9, 1}, row{1, 9, 1},
		nil, row{0, 0, 0},
		row{1, 9, 1, 5, 6, 7}, row{1, 9, 1},
		row{}, row{0, 0, 0})
	cycles(t, "out q: bool = true; begin end", row{0, 0}, row{1}, nil, row{1})
}

// Promise 5.1: In and Out are in order as they stand, whatever stands between; what is neither is not let out.
func TestInOrder(t *testing.T) {
	cycles(t, "out z: byte = 1; in y: byte; var w: byte = 9; out a: byte = 2; timer t; in x: byte; out b: bool = true; in c: byte; begin z := y; a := x + c; end",
		row{10, 20, 30}, row{10, 50, 1}, row{1}, row{1, 0, 1})
	cycles(t, "in a: byte; var v: byte; begin v := a; end", row{3}, nil, nil, nil)
	cycles(t, "begin end", nil, nil, row{1, 2}, nil)
}

// Promise 5.1, and 'Declarations stand in any order': what a program does hangs on no order of them, but what is given and let out does.
func TestDeclarationsInAnyOrder(t *testing.T) {
	body := "begin c(a, b, 2); e(a); t(b, 3); v := not v; if e.q then k := k + n; end; m := k - c.cv + t.et; q := v and c.q; end"
	p := parse(t, all+body)
	want := plant(t, all+body)
	slices.Reverse(p.Decls)
	x, err := scan.New(p)
	if err != nil {
		t.Fatal(err)
	}
	d := die(5)
	for range 60 {
		a, b, n := d.n(2), d.n(2), d.n(256)
		l := want.Step(row{a, b, n})
		slices.Reverse(l)
		step(t, "from behind", x, row{n, b, a}, l)
	}
}

// Promise 5.1: what is not set stays; statements are done one behind the other, each sees what was set ahead of it.
func TestOneBehindTheOther(t *testing.T) {
	cycles(t, "out m: byte = 5; out k: byte; begin k := m; m := k + 1; k := m + m; end", nil, row{6, 12}, nil, row{7, 14})
	cycles(t, "out x: byte = 1; out y: byte = 2; var h: byte; begin h := x; x := y; y := h; end", nil, row{2, 1}, nil, row{1, 2})
	cycles(t, "in a: byte; out m: byte = 9; begin m := a; m := m + m; m := m + a; end", row{5}, row{15}, row{100}, row{44})
	cycles(t, "out m: byte = 250; begin m := m + 1; end",
		nil, row{251}, nil, row{252}, nil, row{253}, nil, row{254}, nil, row{255}, nil, row{0}, nil, row{1})
	cycles(t, "out q: bool; begin q := not q; end", nil, row{1}, nil, row{0}, nil, row{1})
}

// Promise 5.1: If does Then, or Else, and never both; elsif is asked only behind what did not hold.
func TestIf(t *testing.T) {
	cycles(t, "in a: bool; out m: byte; begin if a then m := 1; end; end", row{0}, row{0}, row{1}, row{1}, row{0}, row{1})
	cycles(t, "in a: bool; out m: byte; begin if a then else m := 2; end; end", row{1}, row{0}, row{0}, row{2}, row{1}, row{2})
	cycles(t, "in a: bool; out m: byte; begin if a then m := 1; else m := 2; end; end", row{1}, row{1}, row{0}, row{2})
	cycles(t, "in a: bool; in b: bool; in c: bool; out m: byte; begin if a then m := 1; elsif b then m := 2; elsif c then m := 3; else m := 4; end; end",
		row{1, 1, 1}, row{1}, row{0, 1, 1}, row{2}, row{0, 0, 1}, row{3}, row{0, 0, 0}, row{4}, row{1, 0, 0}, row{1}, row{0, 1, 0}, row{2})
	cycles(t, "in a: bool; in b: bool; out m: byte; begin if a then m := 1; elsif b then m := 2; end; end",
		row{0, 0}, row{0}, row{0, 1}, row{2}, row{0, 0}, row{2}, row{1, 1}, row{1})
	// What Then sets may be what was asked: Else is not done then.
	cycles(t, "var v: bool = true; out m: byte; begin if v then v := false; m := m + 1; else v := true; m := m + 100; end; end",
		nil, row{1}, nil, row{101}, nil, row{102}, nil, row{202})
	cycles(t, "in n: byte; out m: byte; begin if n >= 10 then if n < 20 then m := 1; else m := 2; end; m := m + 10; else if n = 5 then m := 3; end; end; end",
		row{10}, row{11}, row{20}, row{12}, row{5}, row{3}, row{6}, row{3})
	cycles(t, "out m: byte; begin if true then if true then if true then if true then if true then if true then if true then if true then m := m + 1; end; end; end; end; end; end; end; end; end", nil, row{1}, nil, row{2})
}

// Promise 5.1 and 4.2: rungs do what their power tells.
func TestRungs(t *testing.T) {
	l, err := ladder.Parse("a [/b|c d] (S q)\n b (R q)\n (x)\n q (/y)")
	if err != nil {
		t.Fatal(err)
	}
	decls, err := tree.Decls("in a: bool; in b: bool; in c: bool; in d: bool; out q: bool; out x: bool; out y: bool;")
	if err != nil {
		t.Fatal(err)
	}
	x, err := scan.New(api.Program{Decls: decls, Body: ladder.Body(l)})
	if err != nil {
		t.Fatal(err)
	}
	step(t, "nothing", x, nil, row{0, 1, 1})
	step(t, "latched", x, row{1}, row{1, 1, 0})
	step(t, "kept", x, row{0}, row{1, 1, 0})
	step(t, "unlatched", x, row{0, 1}, row{0, 1, 1})
	step(t, "both", x, row{1, 1, 1, 1}, row{0, 1, 1})
	step(t, "again", x, row{1, 0, 1, 1}, row{1, 1, 0})
}

// P1, P2: what New made beside an error, and what no function made, is asked without a panic.
func TestNoPanic(t *testing.T) {
	x, err := scan.New(parse(t, "begin zz := 1; end"))
	if err == nil || x != nil {
		t.Fatalf("%v, %v", x, err)
	}
	for _, y := range []*scan.Plant{x, nil, {}} {
		if got := y.Step(row{1}); len(got) != 0 {
			t.Errorf("let out %v", got)
		}
		none(t, y, "zz", "")
		none(t, y, "zz", "q")
	}
}

// P1: what Parse never told, and Check finds nothing in, makes no panic.
func TestNeverTold(t *testing.T) {
	l := []api.Decl{{Name: "o", Way: api.Out, Type: 9, Init: 3}, {Name: "i", Way: api.In, Type: api.Timer}, {Name: "j", Way: api.In, Type: api.Byte, Init: 5}, {Name: "w", Type: api.Byte, Init: 4}}
	x, err := scan.New(api.Program{Decls: l, Body: make([]api.Stmt, 3)})
	if err != nil {
		t.Fatal(err)
	}
	is(t, x, "j", "", 0)
	is(t, x, "w", "", 4)
	for i := range 3 {
		x.Step(row{i, i + 1})
		is(t, x, "j", "", i+1)
		is(t, x, "w", "", 4)
		none(t, x, "i", "")
		none(t, x, "o", "")
		none(t, x, "o", "q")
	}
	if x, err := scan.New(api.Program{}); err != nil || len(x.Step(nil)) != 0 {
		t.Errorf("the empty program: %v", err)
	}
	if _, err := scan.New(api.Program{Decls: l, Body: []api.Stmt{{Code: api.If}}}); api.Tell(err) != api.ErrArg {
		t.Errorf("If of nothing: %v", err)
	}
}

// P4: nothing that is handed in is written into or kept; what comes out is fresh.
func TestHandedInStays(t *testing.T) {
	text := all + "begin t(a, 3); c(a, b, 3); e(b); k := k + 1; if e.q then m := n; elsif c.q then m := k; else q := t.q; end; end"
	p, same := parse(t, text), parse(t, text)
	x, err := scan.New(p)
	if err != nil {
		t.Fatal(err)
	}
	room := row{1, 1, 300, 77}
	first := x.Step(room[:3])
	if !slices.Equal(room, row{1, 1, 300, 77}) {
		t.Errorf("what is given is %v now", room)
	}
	if !slices.Equal(first, row{1, 44}) {
		t.Errorf("first: %v", first)
	}
	room[0], room[2], first[0], first[1] = 0, 9, 55, 66
	is(t, x, "a", "", 1)
	is(t, x, "n", "", 44)
	is(t, x, "q", "", 1)
	is(t, x, "m", "", 44)
	second := x.Step(row{1, 0})
	if !slices.Equal(second, row{0, 44}) || !slices.Equal(first, row{55, 66}) {
		t.Errorf("%v, then %v", first, second)
	}
	if !reflect.DeepEqual(p, same) {
		t.Error("the program was written into")
	}
	behind := row{1, 1, 1}
	y := plant(t, all+"begin q := b; end")
	step(t, "what stands behind the length", y, behind[:1], row{0, 200})
}

// P4: plants of one program go each their own way.
func TestEachItsOwnWay(t *testing.T) {
	p := parse(t, all+"begin t(a, 9); c(a, b, 9); k := k + 1; m := t.et + c.cv + k; q := a; end")
	x, err := scan.New(p)
	if err != nil {
		t.Fatal(err)
	}
	var alone []row
	for i := range 20 {
		alone = append(alone, x.Step(row{i % 3, 0, 0}))
	}
	y, _ := scan.New(p)
	z, _ := scan.New(p)
	for i := range 20 {
		step(t, "beside another", y, row{i % 3, 0, 0}, alone[i])
		z.Step(row{1, 1, 1})
	}
}

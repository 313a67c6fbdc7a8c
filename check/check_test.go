package check_test

import (
	"errors"
	"math"
	"reflect"
	"strings"
	"testing"

	"rungwork/api"
	"rungwork/check"
	"rungwork/plain"
	"rungwork/tree"
	"rungwork/value"
)

// decls are what the statements of these tests find: bits, bytes, and each kind of block.
const decls = "in a: bool; in b: bool; in n: byte; out q: bool; out m: byte; var v: bool; var k: byte; timer t; counter c; edge e; "

// parse reads a program that must be of the right form.
func parse(t *testing.T, text string) api.Program {
	t.Helper()
	p, err := tree.Parse(text)
	if err != nil {
		e, at := plain.Place(err)
		t.Fatalf("%q: error %d at %d", text, e, at)
	}
	return p
}

// told asks for an error of a program, at a place.
func told(t *testing.T, what string, p api.Program, want api.Errno, place int) {
	t.Helper()
	err := check.Check(p)
	if e, at := plain.Place(err); e != want || at != place {
		t.Errorf("%s: error %d at %d, want %d at %d", what, e, at, want, place)
	}
}

// right asks that nothing be found of statements.
func right(t *testing.T, body string) {
	t.Helper()
	if err := check.Check(parse(t, decls+"begin "+body+" end")); err != nil {
		e, at := plain.Place(err)
		t.Errorf("%q: error %d at %d", body, e, at-len(decls+"begin "))
	}
}

// fault asks for an error of statements at the place that ^ marks in them (it is no part of them).
func fault(t *testing.T, want api.Errno, marked string) {
	t.Helper()
	text := decls + "begin " + marked + " end"
	place := strings.Index(text, "^")
	if place < 0 || strings.Count(text, "^") > 1 {
		t.Fatalf("%q marks no place", marked)
	}
	told(t, marked, parse(t, strings.Replace(text, "^", "", 1)), want, place)
}

// Promise 3.1: Field, of all kinds of blocks and of what is none.
func TestField(t *testing.T) {
	want := map[int]map[string]int{
		api.Timer:   {"q": api.Bool, "et": api.Byte},
		api.Counter: {"q": api.Bool, "cv": api.Byte},
		api.Edge:    {"q": api.Bool},
	}
	for _, kind := range []int{math.MinInt, -1, 0, api.Bool, api.Byte, api.Timer, api.Counter, api.Edge, api.Edge + 1, 255, math.MaxInt} {
		for _, name := range []string{"q", "et", "cv", "", "x", "Q", "ET", "q ", " q", "qq", "e", "t", "c", "v", "etc", "cv\x00", "in", "n"} {
			if got := check.Field(kind, name); got != want[kind][name] {
				t.Errorf("Field(%d, %q) = %d, want %d", kind, name, got, want[kind][name])
			}
		}
	}
}

// Promise 3.1: Args, of all kinds of blocks and of what is none.
func TestArgs(t *testing.T) {
	for _, c := range []struct {
		kind, many int
		number     bool
	}{
		{api.Timer, 1, true}, {api.Counter, 2, true}, {api.Edge, 1, false},
		{api.Bool, 0, false}, {api.Byte, 0, false}, {0, 0, false}, {-1, 0, false}, {api.Edge + 1, 0, false},
		{math.MinInt, 0, false}, {math.MaxInt, 0, false},
	} {
		if many, number := check.Args(c.kind); many != c.many || number != c.number {
			t.Errorf("Args(%d) = %d, %v, want %d, %v", c.kind, many, number, c.many, c.number)
		}
	}
}

// Promise 3.2: programs of which nothing is found.
func TestNothingFound(t *testing.T) {
	for _, s := range []string{
		"", "q := a;", "q := true;", "q := n < m;", "m := n;", "m := 255;", "m := n + m - 1;", "v := q;", "k := m;", "q := q;", "m := not 0;", "q := not a;",
		"q := not (n <> m) xor a or t.q and c.q = e.q;", "m := t.et + c.cv and not (k or n xor 3);", "q := a = b <> v;", "q := n = m <> v;", "q := t.et >= c.cv;",
		"t(a, 7);", "t(a);", "t(a, 0);", "t(true, 255);", "t(n = m, 1);", "t(t.q, 1);", "c(a, b, 7);", "c(a, b);", "c(not a, c.cv > 3, 0);", "e(a);", "e(a, 0);", "e(e.q);",
		"if a then end;", "if n < 3 then else end;", "if a then q := a; elsif b then m := 1; else v := true; end;", "if t.q then t(a); e(b); end;",
		"if a then if b then q := true; end; else if v then k := 1; end; end; c(a, b, 1);", "e(a); e(b); q := a; q := b;",
	} {
		right(t, s)
	}
	if err := check.Check(api.Program{}); err != nil {
		t.Errorf("the empty program: %v", err)
	}
	told(t, "declarations alone", parse(t, decls+"begin end"), api.OK, -1)
	told(t, "no declarations", parse(t, "begin if true then end; end"), api.OK, -1)
}

// Promise 3.2: ErrTwice at the first that is called as one ahead.
func TestTwice(t *testing.T) {
	for _, c := range []struct {
		text  string
		place int
	}{
		{"in a: bool; in a: bool;", 1},
		{"in a: bool; out a: byte;", 1},
		{"in a: bool; timer a;", 1},
		{"edge a; counter a;", 1},
		{"in a: bool; in b: bool; var a: bool;", 2},
		{"in a: bool; in b: bool; var b: bool;", 2},
		{"in a: bool; in a: bool; in a: bool;", 1},
		{"in a: bool; in b: bool; in b: bool; in a: bool;", 2},
		{"in a: bool; in b: bool; in a: bool; in b: bool;", 2},
		{"in a: bool; in b: bool; in ab: bool; in ba: byte; in aa: bool; timer _; edge _;", 6},
	} {
		for _, body := range []string{"", "zz := 1; ", "a := b; ", "t(zz.q, 3); ", "if 1 then end; "} {
			told(t, c.text+body, parse(t, c.text+" begin "+body+"end"), api.ErrTwice, c.place)
		}
	}
	full := decls + "in c1: bool; in c2: bool; in c3: bool; in c4: bool; in c5: bool; in c6: bool; in c7: bool; in c8: bool; in c9: bool; "
	told(t, "as many as may be", parse(t, full+"in c10: bool; begin end"), api.OK, -1)
	told(t, "the last of as many as may be", parse(t, full+"in a: byte; begin end"), api.ErrTwice, api.MaxDecls-1)
	told(t, "names that begin alike", parse(t, "in a: bool; in aa: bool; in a_: bool; in a1: bool; begin end"), api.OK, -1)
}

// Promise 3.2: ErrMissing, wherever a name may stand.
func TestMissing(t *testing.T) {
	for _, s := range []string{
		"^zz := a;", "q := ^zz;", "q := a and ^zz;", "q := ^zz and a;", "q := not ^zz;", "q := a or not (b and ^zz);", "q := ^zz.q;", "q := a = ^zz.q;", "m := ^zz.et;", "q := ^zz.x;",
		"^zz(a);", "^zz(a, 3);", "^zz(5);", "t(^zz, 1);", "c(a, ^zz, 1);", "e(^zz.q);", "if ^zz then end;", "if a then ^zz := 1; end;", "if a then else ^zz := 1; end;",
		"if a then elsif ^zz then end;", "if a then elsif b then ^zz(a); end;", "q := ^aa;", "q := ^q1;", "q := ^et;", "m := ^cv;",
	} {
		fault(t, api.ErrMissing, s)
	}
	told(t, "nothing is declared", parse(t, "begin a := b; end"), api.ErrMissing, 6)
	told(t, "a Value, nothing is declared", parse(t, "begin if a then end; end"), api.ErrMissing, 9)
}

// Promise 3.2: ErrArg: a Name is a block's; a block is set; what is none is called.
func TestBlocks(t *testing.T) {
	for _, s := range []string{
		"q := ^t;", "q := ^c;", "q := ^e;", "m := ^t;", "q := a and ^t;", "q := ^t and a;", "q := not ^e;", "q := ^t = t;", "q := t.q = ^c;", "t(^t, 1);", "c(a, ^c, 1);", "if ^e then end;", "m := 1 + ^c;",
		"^t := a;", "^c := 1;", "^e := true;", "^t := t;", "if a then ^e := e.q; end;",
		"^a(a);", "^q(a);", "^v(a);", "^n(a, 1);", "^m(1);", "^k(a, b, 1);", "if a then else ^q(b); end;",
	} {
		fault(t, api.ErrArg, s)
	}
}

// Promise 3.2: ErrArg: marks of two of types that they may not be of, told at where they begin, behind both their sides.
func TestMarksOfTwo(t *testing.T) {
	for _, s := range []string{
		"q := ^a and n;", "q := ^n and a;", "q := ^n or a;", "q := ^1 xor a;", "q := ^a = 1;", "q := ^1 <> a;", "q := ^a < b;", "q := ^a <= b;", "q := ^a > b;", "q := ^a >= true;", "m := ^a + b;", "m := ^a - b;",
		"m := ^n + a;", "q := ^t.q and t.et;", "q := ^c.cv < c.q;", "q := a or ^b + v;", "q := a and (^b < v);", "q := not (^a + b);", "q := ^(a or b) + n;", "q := ^(a or b) + n = 1;", "q := ^n = m = k;", "q := ^n < m < k;", "q := ^not a + n;",
		"q := a or ^not not b = n;", "t(^a = n, 1);", "if ^a < b then end;", "c(a, ^n and b);",
	} {
		fault(t, api.ErrArg, s)
	}
	fault(t, api.ErrMissing, "q := a + ^zz;")
	fault(t, api.ErrMissing, "q := 1 and a = ^zz;")
	fault(t, api.ErrName, "q := a + ^t.x;")
	fault(t, api.ErrName, "q := a + (b or (n < ^t.cv));")
	fault(t, api.ErrArg, "q := a + ^t;")
	fault(t, api.ErrArg, "q := a + (^n and b);")
	fault(t, api.ErrArg, "q := (^n and b) + zz;")
	fault(t, api.ErrArg, "q := ^a + n and zz;")
	fault(t, api.ErrMissing, "q := ^zz + t;")
	fault(t, api.ErrArg, "q := ^t + zz;")
}

// Promise 3.2 (1.1): each mark of two, of all types, is found as Result tells.
func TestMarksOfTwoAsResult(t *testing.T) {
	sides := map[int]string{api.Bool: "a", api.Byte: "n"}
	set := map[int]string{api.Bool: "q := ", api.Byte: "m := "}
	for _, op := range strings.Fields("and or xor = <> < <= > >= + -") {
		for x, left := range sides {
			for y, right := range sides {
				for kind, to := range set {
					body := to + "^" + left + " " + op + " " + right + ";"
					if value.Result(op, x, y) != kind {
						fault(t, api.ErrArg, body)
						continue
					}
					told(t, body, parse(t, decls+"begin "+strings.Replace(body, "^", "", 1)+" end"), api.OK, -1)
				}
			}
		}
	}
}

// Promise 3.2: ErrArg: a Value, or an Arg, that is no Bool; a Set's Value of another type than its name.
func TestOtherTypes(t *testing.T) {
	for _, s := range []string{
		"if ^1 then end;", "if ^n then end;", "if ^n + 1 then end;", "if ^not n then end;", "if (^n and m) then end;", "if (^n) then end;", "if ^t.et then end;", "if a then elsif ^c.cv then end;", "if a then if ^0 then end; end;",
		"t(^n, 1);", "t(^1, 1);", "t(^t.et, 1);", "e(^k);", "e((^5));", "c(^n, a, 1);", "c(a, ^n, 1);", "c(a, ^n - 1, 1);", "c(^1, 1, 1);",
		"q := ^1;", "q := ^n;", "q := ^t.et;", "q := ^not m;", "q := ^n + 1;", "q := (^n);", "v := ^0;", "m := ^a;", "m := ^true;", "m := ^false;", "k := ^t.q;", "k := ^not a;", "m := ^n = 1;", "m := ^n < 1;", "k := ^(a or b) and v;",
	} {
		fault(t, api.ErrArg, s)
	}
}

// Promise 3.2: ErrName: a Field of what has none such.
func TestNoSuchField(t *testing.T) {
	for _, s := range []string{
		"q := ^t.x;", "q := ^t.cv;", "m := ^t.cv;", "m := ^c.et;", "m := ^e.et;", "m := ^e.cv;", "q := ^t.t;", "q := ^t.qq;", "q := ^t.a;",
		"q := ^a.q;", "q := ^q.q;", "m := ^n.et;", "m := ^k.cv;", "q := ^v.q;", "t(^a.q, 1);", "if ^n.q then end;", "q := a or not (b xor ^e.cv);", "if a then m := 1 + ^t.cv; end;",
	} {
		fault(t, api.ErrName, s)
	}
}

// Promise 3.2: ErrState: what is In is set, whatever to.
func TestGivenIsSet(t *testing.T) {
	for _, s := range []string{
		"^a := b;", "^a := true;", "^n := 1;", "^a := 1;", "^a := zz;", "^n := t;", "^a := t.x;", "^a := n + a;", "if b then ^a := b; end;", "if b then else ^n := 1; end;", "q := a; ^a := q;",
	} {
		fault(t, api.ErrState, s)
	}
}

// Promise 3.2: ErrRange: another number of Args, or a number that is not 0 of a block that has none.
func TestArgsOfCalls(t *testing.T) {
	for _, s := range []string{
		"^t(a, b, 1);", "^t(a, b);", "^t(1);", "^t(0);", "^c(a, 1);", "^c(a);", "^c(1);", "^c(a, b, v, 1);", "^c(a, b, v);", "^e(a, b);", "^e(0);", "^e(5);", "^e(a, 1);", "^e(a, 255);", "^e(a, b, 0);",
		"if a then ^e(a, 1); end;", "if a then else ^t(0); end;", "if a then elsif b then ^c(a); end;",
		"^t(zz, a);", "^t(n, m);", "^t(t.x, t);", "^c(zz);", "^e(zz, 1);", "^e(n, 1);", "^e(e, 7);", "^e(a + n, 1);",
	} {
		fault(t, api.ErrRange, s)
	}
}

// Promise 3.2: of a Set, or a Call, what is told at the statement first, of a Call ErrMissing, ErrArg, ErrRange.
func TestStatementFirst(t *testing.T) {
	for _, s := range []string{"^zz := yy;", "^zz := t.x;", "^zz := a + n;", "^zz(yy);", "^zz(a, b, v, 9);", "^zz(1);", "^zz(n, t.x);"} {
		fault(t, api.ErrMissing, s)
	}
	for _, s := range []string{"^t := zz;", "^c := c.x;", "^e := a + n;", "^a(zz);", "^a(a, b, v, 9);", "^n(1);", "^q(t.x, 3);", "^q(0);"} {
		fault(t, api.ErrArg, s)
	}
	fault(t, api.ErrMissing, "t(^zz, 3);")
	fault(t, api.ErrMissing, "e(^zz, 0);")
}

// Promise 3.2: of two faults that which comes first from the left, one thing wholly ahead of the next one.
func TestFromTheLeft(t *testing.T) {
	fault(t, api.ErrMissing, "q := ^zz and yy;")
	fault(t, api.ErrMissing, "q := ^zz; a := b;")
	fault(t, api.ErrState, "^a := b; q := zz;")
	fault(t, api.ErrRange, "^e(a, 1); zz := 1;")
	fault(t, api.ErrName, "q := ^t.x and zz;")
	fault(t, api.ErrMissing, "q := ^zz and t.x;")
	fault(t, api.ErrArg, "q := ^t or t.x;")
	fault(t, api.ErrArg, "c(^n, zz, 1);")
	fault(t, api.ErrMissing, "c(^zz, n, 1);")
	fault(t, api.ErrArg, "c(a, ^n, 1); zz := 1;")
	fault(t, api.ErrArg, "c(^n, t, 1);")
	fault(t, api.ErrMissing, "m := a = ^zz;")
	fault(t, api.ErrArg, "m := ^a; zz := 1;")
	fault(t, api.ErrArg, "if ^n then zz := 1; else yy := 1; end;")
	fault(t, api.ErrMissing, "if ^zz then a := b; end;")
	fault(t, api.ErrState, "if b then ^a := b; else zz := 1; end; yy := 1;")
	fault(t, api.ErrMissing, "if b then else ^zz := 1; end; a := b;")
	fault(t, api.ErrMissing, "if b then q := ^zz; elsif n then end;")
	fault(t, api.ErrArg, "if b then elsif ^n then zz := 1; end;")
	fault(t, api.ErrMissing, "if b then elsif v then else ^zz := 1; end; a := b;")
	fault(t, api.ErrMissing, "q := a; m := n; t(a, 1); if a then end; ^zz := 1;")
}

// Promise 3.2: nothing hangs on the order of declarations, nor on what is not asked for.
func TestDeclarationsInAnyOrder(t *testing.T) {
	p := parse(t, decls+"begin q := a; c(a, b, 1); m := t.et; e(zz); end")
	place := p.Body[3].Args[0].At
	for range p.Decls {
		told(t, "turned", p, api.ErrMissing, place)
		p.Decls = append(p.Decls[1:len(p.Decls):len(p.Decls)], p.Decls[0])
	}
	for i, j := 0, len(p.Decls)-1; i < j; i, j = i+1, j-1 {
		p.Decls[i], p.Decls[j] = p.Decls[j], p.Decls[i]
	}
	told(t, "from behind", p, api.ErrMissing, place)
	p.Decls = append(p.Decls, api.Decl{Name: "zz", Way: api.Var, Type: api.Bool})
	told(t, "declared behind all", p, api.OK, -1)
}

// Promise 3.2: what is put together of what Parse told has the places that it came with.
func TestPutTogether(t *testing.T) {
	p := parse(t, decls+"begin q := a; m := n; end")
	bit, octet := p.Body[0].Value, p.Body[1].Value
	both := &api.Expr{Code: api.Bin, At: 77, Op: "and", Left: bit, Right: octet}
	for _, c := range []struct {
		what  string
		s     api.Stmt
		want  api.Errno
		place int
	}{
		{"a Set of both", api.Stmt{Code: api.Set, At: 5, Name: "q", Value: both}, api.ErrArg, 77},
		{"a Set of not of a byte", api.Stmt{Code: api.Set, At: 5, Name: "q", Value: &api.Expr{Code: api.Not, At: 99, Left: octet}}, api.ErrArg, 99},
		{"a Set of not of a bit", api.Stmt{Code: api.Set, At: 5, Name: "q", Value: &api.Expr{Code: api.Not, At: 99, Left: bit}}, api.OK, -1},
		{"a Set at 0", api.Stmt{Code: api.Set, Name: "a", Value: bit}, api.ErrState, 0},
		{"a Call of no Args", api.Stmt{Code: api.Call, At: 6, Name: "e"}, api.ErrRange, 6},
		{"a Call with a number", api.Stmt{Code: api.Call, At: 6, Name: "e", Args: []*api.Expr{bit}, N: 3}, api.ErrRange, 6},
		{"a Call with a number below 0", api.Stmt{Code: api.Call, At: 6, Name: "e", Args: []*api.Expr{bit}, N: -1}, api.ErrRange, 6},
		{"a Call with the same twice", api.Stmt{Code: api.Call, At: 6, Name: "c", Args: []*api.Expr{bit, bit}, N: 3}, api.OK, -1},
		{"an If in an If", api.Stmt{Code: api.If, At: 7, Value: bit, Else: []api.Stmt{{Code: api.If, At: 8, Value: both}}}, api.ErrArg, 77},
	} {
		told(t, c.what, api.Program{Decls: p.Decls, Body: []api.Stmt{c.s}}, c.want, c.place)
	}
	deep := bit
	for range 60_000 {
		deep = &api.Expr{Code: api.Not, Left: deep}
	}
	body := []api.Stmt{{Code: api.Set, Name: "q", Value: deep}}
	for range 60_000 {
		body = []api.Stmt{{Code: api.If, Value: bit, Then: body}}
	}
	told(t, "what lies deep", api.Program{Decls: p.Decls, Body: body}, api.OK, -1)
}

// P1: what Parse never told makes no panic, and is not taken for right where a value is missing.
func TestNoPanic(t *testing.T) {
	l := []api.Decl{{Name: "q", Way: api.Out, Type: api.Bool}, {Name: "e", Way: api.Var, Type: api.Edge}, {Name: "o", Way: 9, Type: 9}}
	for _, s := range []api.Stmt{
		{Code: api.Set, At: 4, Name: "q"},
		{Code: api.If, At: 4},
		{Code: api.Call, At: 4, Name: "e", Args: []*api.Expr{nil}},
		{Code: api.Set, At: 1, Name: "q", Value: &api.Expr{At: 4}},
		{Code: api.Set, At: 1, Name: "q", Value: &api.Expr{Code: -1, At: 4}},
		{Code: api.Set, At: 1, Name: "q", Value: &api.Expr{Code: api.Not, At: 4}},
		{Code: api.Set, At: 1, Name: "q", Value: &api.Expr{Code: api.Bin, At: 4, Op: "and"}},
		{Code: api.Set, At: 1, Name: "q", Value: &api.Expr{Code: api.Num, At: 4, Type: api.Timer}},
		{Code: api.Set, At: 1, Name: "q", Value: &api.Expr{Code: api.Name, At: 4, Name: "o"}},
		{Code: api.Set, At: 4, Name: "o"},
		{Code: api.Call, At: 4, Name: "o"},
	} {
		told(t, "what Parse never told", api.Program{Decls: l, Body: []api.Stmt{s}}, api.ErrArg, 4)
	}
	told(t, "no statement", api.Program{Decls: l, Body: make([]api.Stmt, 3)}, api.OK, -1)
	told(t, "no name", api.Program{Decls: make([]api.Decl, 2)}, api.ErrTwice, 1)
}

// P3: an error is an Errno and an At, as errors.As finds them; of none it is nil.
func TestErrorsAsFound(t *testing.T) {
	err := check.Check(parse(t, "in a: bool; in a: bool; begin end"))
	var e api.Errno
	var at *api.At
	if !errors.As(err, &e) || e != api.ErrTwice {
		t.Errorf("the Errno is %d", e)
	}
	if !errors.As(err, &at) || at.Err != api.ErrTwice || at.Place != 1 {
		t.Errorf("the At is %+v", at)
	}
	if err := check.Check(parse(t, decls+"begin q := a; end")); err != nil {
		t.Errorf("of none: %#v", err)
	}
}

// P4: nothing that is handed in is written into, and the same is answered again.
func TestHandedInStays(t *testing.T) {
	for _, s := range []string{"q := a and not b; c(a, t.q, 3); if a then m := 1; elsif b then k := n; else e(a); end;", "if a then c(a, zz, 1); end;", "q := n;", "e(a, 3);"} {
		p, same := parse(t, decls+"begin "+s+" end"), parse(t, decls+"begin "+s+" end")
		first := check.Check(p)
		told(t, "between", parse(t, "in q: byte; begin q := 1; end"), api.ErrState, 18)
		if again := check.Check(p); !reflect.DeepEqual(first, again) {
			t.Errorf("%q: %+v, then %+v", s, first, again)
		}
		if !reflect.DeepEqual(p, same) {
			t.Errorf("%q was written into", s)
		}
	}
	room := []api.Decl{{Name: "a", Type: api.Bool}, {Name: "a", Type: api.Byte}, {Name: "b"}}
	told(t, "what stands behind the length", api.Program{Decls: room[:1]}, api.OK, -1)
	if room[1].Name != "a" || room[1].Type != api.Byte || room[2].Name != "b" {
		t.Errorf("behind the length: %+v", room)
	}
}

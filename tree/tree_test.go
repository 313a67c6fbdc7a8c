package tree_test

import (
	"reflect"
	"strings"
	"testing"

	"rungwork/api"
	"rungwork/plain"
	"rungwork/tree"
)

// kept are the words that are no names.
var kept = strings.Fields("in out var bool byte timer counter edge begin end if then elsif else and or xor not true false")

// long is a name of just as many letters as may be.
const long = "abcdefghij_9"

// fault asks a reader of texts for an error at the place that ^ marks in the text (it is no part of it).
func fault[T any](t *testing.T, read func(string) (T, error), marked string, want api.Errno) {
	t.Helper()
	place := strings.Index(marked, "^")
	if place < 0 || strings.Count(marked, "^") > 1 {
		t.Fatalf("%q marks no place", marked)
	}
	text := strings.Replace(marked, "^", "", 1)
	got, err := read(text)
	if e, at := plain.Place(err); e != want || at != place {
		t.Errorf("%q: error %d at %d, want %d at %d", text, e, at, want, place)
	}
	var none T
	if !reflect.DeepEqual(got, none) {
		t.Errorf("%q: beside the error %+v", text, got)
	}
}

// parse reads a program that must be right.
func parse(t *testing.T, text string) api.Program {
	t.Helper()
	p, err := tree.Parse(text)
	if err != nil {
		e, at := plain.Place(err)
		t.Fatalf("%q: error %d at %d", text, e, at)
	}
	return p
}

// expr reads an expression, the first byte of which is its place 0.
func expr(t *testing.T, text string) *api.Expr {
	t.Helper()
	const ahead = "begin a := "
	x := parse(t, ahead+text+"; end").Body[0].Value
	move(x, -len(ahead))
	return x
}

// move adds a number to all places of an expression.
func move(x *api.Expr, by int) {
	if x == nil {
		return
	}
	x.At += by
	move(x.Left, by)
	move(x.Right, by)
}

// placeless is an expression without its places.
func placeless(x *api.Expr) *api.Expr {
	if x == nil {
		return nil
	}
	y := *x
	y.At, y.Left, y.Right = 0, placeless(x.Left), placeless(x.Right)
	return &y
}

// placelessBody are statements without their places.
func placelessBody(l []api.Stmt) []api.Stmt {
	var out []api.Stmt
	for _, s := range l {
		s.At, s.Value, s.Then, s.Else = 0, placeless(s.Value), placelessBody(s.Then), placelessBody(s.Else)
		var args []*api.Expr
		for _, x := range s.Args {
			args = append(args, placeless(x))
		}
		s.Args = args
		out = append(out, s)
	}
	return out
}

func name(at int, s string) *api.Expr { return &api.Expr{Code: api.Name, At: at, Name: s} }

func field(at int, s, f string) *api.Expr {
	return &api.Expr{Code: api.Field, At: at, Name: s, Field: f}
}

func octet(at, n int) *api.Expr { return &api.Expr{Code: api.Num, At: at, N: n, Type: api.Byte} }

func bit(at, n int) *api.Expr { return &api.Expr{Code: api.Num, At: at, N: n, Type: api.Bool} }

func not(at int, x *api.Expr) *api.Expr { return &api.Expr{Code: api.Not, At: at, Left: x} }

func bin(at int, op string, x, y *api.Expr) *api.Expr {
	return &api.Expr{Code: api.Bin, At: at, Op: op, Left: x, Right: y}
}

// dice: numbers that look drawn, the same each time.
type dice uint64

func (d *dice) below(n int) int {
	*d = *d*6364136223846793005 + 1442695040888963407
	return int(uint64(*d>>33) % uint64(n))
}

// Promise 2.2: Name.
func TestName(t *testing.T) {
	for _, s := range []string{"a", "z", "_", "a1", "_1", "a_b", long, "ends", "i", "ifs", "trues"} {
		if !tree.Name(s) {
			t.Errorf("%q is no name", s)
		}
	}
	wrong := []string{"", " ", "1", "1a", "A", "aB", "a b", " a", "a ", "a\n", "a.b", "a-b", "ä", "a\x00", "é", "(", ":=", long + "a", strings.Repeat("a", 1000)}
	for _, s := range append(wrong, kept...) {
		if tree.Name(s) {
			t.Errorf("%q is a name", s)
		}
	}
	for c := range 256 {
		s := string([]byte{byte(c)})
		letter := c == '_' || 'a' <= c && c <= 'z'
		if tree.Name(s) != letter || tree.Name("a"+s) != (letter || '0' <= c && c <= '9') {
			t.Errorf("letter %d", c)
		}
	}
}

// Promise 2.1: what stands between tokens, and what is none.
func TestBetweenTokens(t *testing.T) {
	want := parse(t, "in a : bool ; out q : byte = 7 ; begin q := q + 1 ; t ( a , a . b ) ; if a <> a then end ; end")
	for _, s := range []string{
		"in a:bool;out q:byte=7;begin q:=q+1;t(a,a.b);if a<>a then end;end",
		"\n\tin\na\t:\n\nbool; out q : \t byte = 7 ; begin\nq\n:=\nq\n+\n1\n;\tt(\ta,\na\t.\nb);if a<>a then end;end \n\t ",
		"in a: bool; out q: byte=0007; begin q :=q+01;t(a,\n\n\na.b); if a<>a then end; end\n",
	} {
		got := parse(t, s)
		if !reflect.DeepEqual(got.Decls, want.Decls) || !reflect.DeepEqual(placelessBody(got.Body), placelessBody(want.Body)) {
			t.Errorf("%q: %+v", s, got)
		}
	}
	for c := range 256 {
		if c != '^' && !strings.ContainsRune("abcdefghijklmnopqrstuvwxyz_0123456789:<>=+-(),;. \t\n", rune(c)) {
			fault(t, tree.Parse, "begin end ^"+string([]byte{byte(c)}), api.ErrForm)
		}
	}
	_, err := tree.Parse("begin end ^")
	if e, at := plain.Place(err); e != api.ErrForm || at != 10 {
		t.Errorf("of a ^: error %d at %d", e, at)
	}
}

// Promise 2.1: of marks the first that stands there, words and numbers as long as they are.
func TestMarks(t *testing.T) {
	for _, op := range strings.Fields("<> <= >= < > = + -") {
		if got, want := expr(t, "a"+op+"b"), bin(0, op, name(0, "a"), name(1+len(op), "b")); !reflect.DeepEqual(got, want) {
			t.Errorf("%s: %+v", op, got)
		}
	}
	for _, s := range []string{
		"begin a ^: = 1; end",
		"begin a^:: = 1; end",
		"begin a ^= 1; end",
		"begin a := b < ^> c; end",
		"begin a := b < ^= c; end",
		"begin a := b >^<c; end",
		"begin a := b =^> c; end",
		"begin a := b >=^= c; end",
		"begin a := 1^a; end",
		"begin a := 1^_; end",
		"begin ^1a := 1; end",
		"begin a1b2 := nota ^b; end",
		"^beginn end",
		"begin a := b ^1; end",
		"begin a := ^-1; end",
		"begin a := ^+1; end",
		"begin a := b + ^-1; end",
	} {
		fault(t, tree.Parse, s, api.ErrForm)
	}
}

// Promise 2.1: what is no token is told ahead of all else, and so is what is behind MaxTokens.
func TestTokensFirst(t *testing.T) {
	for _, s := range []string{
		"end end ^$",
		"begin a := 256; end ^A",
		"begin " + long + "a := 1; end ^!",
		strings.Repeat("in a: bool; ", 30) + "begin end ^#",
		"begin a := " + strings.Repeat("(", 20) + "^@",
		"^$ $",
		"^\r\n",
		"in a: bool;^\r\nbegin end",
		"begin a := ^\"b\"; end",
		"begin ^/ a comment / end",
		"begin a := b ^* c; end",
		"begin a := ^ä; end",
	} {
		fault(t, tree.Parse, s, api.ErrForm)
		fault(t, tree.Decls, s, api.ErrForm)
	}
}

// sum is a program of so many tokens, an even number of them.
func sum(many int) string {
	return "begin a := 1" + strings.Repeat(" + 1", (many-6)/2) + "; end"
}

// Promise 2.1: MaxTokens, just met and just passed.
func TestMaxTokens(t *testing.T) {
	full := sum(api.MaxTokens)
	parse(t, full)
	parse(t, full+" \n\t ")
	fault(t, tree.Parse, full+" ^end", api.ErrLimit)
	fault(t, tree.Parse, full+"^;", api.ErrLimit)
	fault(t, tree.Parse, full+" ^; $", api.ErrLimit)
	fault(t, tree.Parse, full+" ^$", api.ErrForm)
	fault(t, tree.Parse, full+" ^$ ;", api.ErrForm)
	fault(t, tree.Parse, "begin "+strings.Repeat(" ;", api.MaxTokens-1)+" ^;", api.ErrLimit)
	fault(t, tree.Parse, "begin ^;"+strings.Repeat(" ;", api.MaxTokens-2), api.ErrForm)
	fault(t, tree.Parse, strings.Replace(sum(api.MaxTokens+2), "; end", "^; end", 1), api.ErrLimit)
	fault(t, tree.Decls, strings.Repeat(";", api.MaxTokens)+"^;", api.ErrLimit)
	fault(t, tree.Decls, "^;"+strings.Repeat(";", api.MaxTokens-1), api.ErrForm)
	fault(t, tree.Parse, strings.Repeat("(", api.MaxTokens)+"^"+strings.Repeat("(", 200_000), api.ErrLimit)
}

// Promise 2.1: ErrForm at the first token that may not stand there.
func TestParseForm(t *testing.T) {
	for _, s := range []string{
		"^", " \n^", "begin^", "begin  ^", "in^", "in a^", "in a:^", "in a: bool^", "in a: bool;^", "out a: bool =^", "out a: byte =^",
		"out a: byte = 1^", "timer^", "timer a^", "timer a;^", "begin a^", "begin a :=^", "begin a := b^", "begin a := b;^", "begin a := not^",
		"begin a := (^", "begin a := (b^", "begin a := b.^", "begin a := b +^", "begin a(^", "begin a(b^", "begin a(b,^", "begin a(1^", "begin a(1)^",
		"begin a(b, 1^", "begin if^", "begin if a^", "begin if a then^", "begin if a then end^", "begin if a then end;^", "begin if a then else^",
		"begin if a then elsif^", "begin if a then elsif b^", "begin if a then elsif b then ^", "begin if a then elsif b then end;^",
		"begin end ^end", "begin end^;", "begin end ^begin end", "begin end ^in a: bool;", "^end", "^a := 1;", "^begi end", "in a: bool; ^a := 1; begin end",
		"in a: bool; ^end", "begin ^in a: bool; end", "begin ^timer t; end", "begin ^; end", "begin a := 1;^; end", "begin ^begin end end",
		"begin ^1 := a; end", "begin ^(a) := 1; end", "begin a ^b := 1; end", "begin a^.b := 1; end", "begin a^; end", "begin a ^end",
		"begin a := ^; end", "begin a := b ^end", "begin a := b ^c; end", "begin a := b ^:= c; end",
		"begin a := b ^(c); end", "begin a := b.c^.d; end", "begin a := b.^1; end", "begin a := 1^.b; end", "begin a := true^.b; end", "begin a := (b)^.c; end",
		"begin a := (^); end", "begin a := (b^; end", "begin a := b^); end", "begin a := b ^not c; end",
		"begin a := b and ^or c; end", "begin a := ^and b; end", "begin a := b or ^; end", "begin a := b = ^= c; end", "begin a := not ^; end", "begin a := not ^and b; end",
		"begin a := ^bool; end", "begin a := ^timer; end", "begin a := (b^, c); end",
		"begin a(^); end", "begin a(^, b); end", "begin a(b^; end", "begin a(b,^); end", "begin a(b,^, c); end", "begin a(b ^c); end", "begin a(b) ^end", "begin a(b)^, end",
		"begin a(b) ^:= 1; end", "begin a(1 ^2); end", "begin a(1^; end", "begin a(b, 1 ^c); end", "begin a(b, 1^; end",
		"begin if ^then end; end", "begin if a ^end; end", "begin if a then end ^end", "begin if a then ^then end; end", "begin if a then else ^else end; end",
		"begin if a then else ^elsif b then end; end", "begin ^else end", "begin ^elsif a then end; end", "begin ^then end", "begin if a then elsif b ^end; end",
		"begin if a then elsif b then else ^elsif c then end; end", "begin if a then elsif b then end; end^; end",
		"begin if a then b := c ^else end; end", "begin if a ^; end", "begin if a then ^; end; end", "begin while ^end",
		"begin if (a ^then end; end", "begin if a then ^begin end",
	} {
		fault(t, tree.Parse, s, api.ErrForm)
	}
}

// declWrong are declarations that are wrong, of themselves.
var declWrong = []string{
	"in ^: bool;", "in ^1: bool;", "in a ^bool;", "in a^; bool;", "in a: ^;", "in a: ^int;", "in a: ^timer;", "in a: ^in;", "in a: bool ^in b: bool;",
	"in a: bool ^= true;", "in a: byte ^= 0;", "in a^:= bool;", "in a^, b: bool;", "in a: bool^, b: bool;",
	"out q: bool = ^1;", "out q: bool = ^0;", "out q: bool = ^q;", "out q: bool = ^not false;", "out q: bool = ^;", "out q: bool ^:= true;", "out q: bool = true ^true;",
	"out q: byte = ^true;", "out q: byte = ^false;", "out q: byte = ^-1;", "out q: byte = ^a;", "out q: byte = 1 ^+ 1;", "out q: byte = 1 ^1;", "out q: byte = ^(1);",
	"out q: byte = ^bool;", "var v ^= 1;", "var v: bool = false^, ", "var v: byte^: 1;",
	"timer t^: bool;", "timer t ^= 1;", "timer ^;", "counter ^1;", "counter c^, d;", "edge e^()", "edge e ^edge f;", "edge e^.q;",
}

// Promise 2.1: ErrForm of declarations.
func TestDeclsForm(t *testing.T) {
	for _, s := range declWrong {
		fault(t, tree.Decls, s, api.ErrForm)
		fault(t, tree.Parse, s, api.ErrForm)
		fault(t, tree.Parse, "in z: bool; timer y; "+s+" begin end", api.ErrForm)
	}
	for _, s := range []string{
		"^a", "^begin", "^;", "in a: bool; ^begin end", "in a: bool;^;", "in a: bool; ^end", "in a: bool; ^b: bool;", "in a: bool; ^1", "in^", "in a^", "in a:^",
		"in a: bool^", "in a: bool  ^", "out q: bool =^", "var q: byte =^", "edge^", "edge e^",
	} {
		fault(t, tree.Decls, s, api.ErrForm)
	}
}

// Promise 2.1: no kept word is a NAME, wherever one may stand.
func TestKeptWords(t *testing.T) {
	for _, k := range kept {
		for _, s := range []string{"in ^K: bool;", "out ^K: byte;", "var ^K: bool;", "timer ^K;", "counter ^K;", "edge ^K;"} {
			fault(t, tree.Decls, strings.Replace(s, "K", k, 1), api.ErrForm)
		}
		fault(t, tree.Parse, "begin a := b.^"+k+"; end", api.ErrForm)
		if k != "if" && k != "end" {
			fault(t, tree.Parse, "begin ^"+k+" := 1; end", api.ErrForm)
			fault(t, tree.Parse, "begin ^"+k+"(a); end", api.ErrForm)
		}
		if k != "not" && k != "true" && k != "false" {
			fault(t, tree.Parse, "begin a := ^"+k+"; end", api.ErrForm)
			fault(t, tree.Parse, "begin a := not (b or ^"+k+"); end", api.ErrForm)
		}
		parse(t, "in "+k+"s: bool; begin "+k+"_ := b."+k+"1 or _"+k+"; "+k+"x("+k+"y); end")
	}
}

// Promise 2.1: MaxName, just met and just passed, wherever a NAME may stand.
func TestMaxName(t *testing.T) {
	for _, s := range []string{
		"in ^N: bool; begin end", "out ^N: bool; begin end", "var ^N: byte = 1; begin end", "timer ^N; begin end", "counter ^N; begin end", "edge ^N; begin end",
		"begin ^N := 1; end", "begin ^N(a); end", "begin a := ^N; end", "begin a := ^N.b; end", "begin a := b.^N; end", "begin a := b + (c and not ^N); end",
		"begin a(^N); end", "begin a(b, ^N, 1); end", "begin if ^N then end; end", "begin if a then elsif ^N then end; end", "begin if a then ^N := 1; end; end",
	} {
		parse(t, strings.NewReplacer("N", long, "^", "").Replace(s))
		fault(t, tree.Parse, strings.Replace(s, "N", long+"a", 1), api.ErrLimit)
		fault(t, tree.Parse, strings.Replace(s, "N", strings.Repeat("_", 500), 1), api.ErrLimit)
	}
	fault(t, tree.Decls, "in a: bool; timer ^"+long+"1;", api.ErrLimit)
	for _, s := range []string{"begin a ^N; end", "^N end", "in a: ^N;", "begin a := b ^N; end", "begin end ^N", "begin if a ^N end; end", "out a: byte = ^N;"} {
		fault(t, tree.Parse, strings.Replace(s, "N", long+"a", 1), api.ErrForm)
	}
}

// Promise 2.1: a BYTE of at most 255, with any many noughts ahead.
func TestMaxByte(t *testing.T) {
	nought := strings.Repeat("0", 300)
	for _, s := range []string{"var v: byte = ^N; begin end", "begin a := ^N; end", "begin a(^N); end", "begin a(b, ^N); end", "begin a(^N, b); end", "begin a := b + not (^N); end", "begin if ^N then end; end"} {
		for _, n := range []string{"255", "0255", nought + "255", "0", nought} {
			parse(t, strings.NewReplacer("N", n, "^", "").Replace(s))
		}
		for _, n := range []string{"256", "0256", nought + "256", "260", "300", "999", "1000", "18446744073709551617", "4294967297", strings.Repeat("9", 400)} {
			fault(t, tree.Parse, strings.Replace(s, "N", n, 1), api.ErrLimit)
		}
	}
	for _, s := range []string{"begin a := b ^256; end", "begin a(1 ^256); end", "var v: bool = ^256; begin end", "in v: byte ^= 256; begin end", "begin ^256 := a; end", "begin end ^256", "in ^256: bool;", "begin a := b.^256; end"} {
		fault(t, tree.Parse, s, api.ErrForm)
	}
	for n, text := range map[int]string{0: "0", 7: "007", 10: "10", 100: "100", 255: nought + "255"} {
		if p := parse(t, "var v: byte = "+text+"; begin t("+text+"); end"); p.Decls[0].Init != n || p.Body[0].N != n {
			t.Errorf("%s: %+v", text, p)
		}
		if x := expr(t, text); x.N != n {
			t.Errorf("%s: %d", text, x.N)
		}
	}
}

// Promise 2.1: MaxDecls, just met and just passed, told once the declaration is read.
func TestMaxDecls(t *testing.T) {
	for _, d := range []string{"in a: bool; ", "out b: byte = 3; ", "timer t; ", "edge e; "} {
		full := strings.Repeat(d, api.MaxDecls)
		if l, err := tree.Decls(full); err != nil || len(l) != api.MaxDecls {
			t.Errorf("%d of %q: %d, %v", api.MaxDecls, d, len(l), err)
		}
		if p := parse(t, full+"begin end"); len(p.Decls) != api.MaxDecls {
			t.Errorf("%d of %q: %d", api.MaxDecls, d, len(p.Decls))
		}
		for _, rest := range []string{"begin end", "begin a := 256; end", "", "end", d, "in in"} {
			fault(t, tree.Parse, full+"^"+d+rest, api.ErrLimit)
			fault(t, tree.Decls, full+"^"+d+rest, api.ErrLimit)
		}
		for _, w := range declWrong {
			fault(t, tree.Decls, full+w, api.ErrForm)
		}
		fault(t, tree.Decls, full+"in "+"^"+long+"a: bool;", api.ErrLimit)
		fault(t, tree.Decls, full+"var v: byte = ^256;", api.ErrLimit)
		fault(t, tree.Decls, full+"in a: bool^", api.ErrForm)
		fault(t, tree.Decls, full+"^end", api.ErrForm)
	}
}

// nested are so many of what opens, something within, and as many of what closes.
func nested(open string, many int, within, close string) string {
	return strings.Repeat(open, many) + within + strings.Repeat(close, many)
}

// Promise 2.1: MaxDepth of if and elsif: at the token behind the one that lies too deep, whatever it is.
func TestMaxDepthOfIf(t *testing.T) {
	const most = api.MaxDepth
	const i = "if a then "
	parse(t, "begin "+nested(i, most, "", "end; ")+"end")
	parse(t, "begin "+nested(i, most, "", "end; ")+nested(i, most, "", "end; ")+"end")
	parse(t, "begin "+nested("if a then else ", most, "", "end; ")+"end")
	parse(t, "begin "+i+strings.Repeat("elsif a then ", most-1)+"end; end")
	parse(t, "begin "+i+nested(i, most-1, "", "end; ")+strings.Repeat("elsif a then ", most-1)+"else end; end")
	parse(t, "begin "+i+"elsif a then "+nested(i, most-2, "", "end; ")+"else "+nested(i, most-2, "", "end; ")+"end; end")
	deep := []string{
		"begin " + strings.Repeat(i, most) + "if ",
		"begin " + strings.Repeat("if a then else ", most) + "if ",
		"begin " + i + strings.Repeat("elsif a then ", most-1) + "elsif ",
		"begin " + i + strings.Repeat("elsif a then ", most-1) + "if ",
		"begin " + i + strings.Repeat("elsif a then ", most-1) + "else if ",
		"begin " + i + "elsif a then " + strings.Repeat(i, most-2) + "if ",
		"begin " + i + "elsif a then else " + strings.Repeat(i, most-2) + "if ",
		"begin " + strings.Repeat(i, most) + "elsif ",
	}
	for _, s := range deep {
		for _, token := range []string{"a then", "not a", "then", ";", "256", long + "a", ")", "end", "if"} {
			fault(t, tree.Parse, s+"^"+token, api.ErrLimit)
		}
		fault(t, tree.Parse, s+"^", api.ErrLimit)
		fault(t, tree.Parse, s+"a ^$", api.ErrForm)
	}
	fault(t, tree.Parse, "begin "+strings.Repeat(i, most-1)+"if ^;", api.ErrForm)
}

// Promise 2.1: MaxDepth of not, ( and ): at the token with which the ONE would begin that lies too deep.
func TestMaxDepthOfOne(t *testing.T) {
	const most = api.MaxDepth
	for _, whole := range []string{"begin a := X; end", "begin if X then end; end", "begin t(X); end", "begin t(b, X, 1); end", "begin if a then elsif X then end; end", "begin a := b + X - b; end"} {
		ahead, behind, _ := strings.Cut(whole, "X")
		for nots := range most + 1 {
			in := strings.Repeat("not ", nots) + strings.Repeat("(", most-nots)
			out := strings.Repeat(")", most-nots)
			for _, one := range []string{"b", "1", "true", "b.q", "b and b or b"} {
				parse(t, ahead+in+one+out+behind)
			}
			parse(t, ahead+in+"b and b"+out+" and "+in+"b"+out+behind)
			for _, one := range []string{"not ^b", "not ^1", "not ^true", "(^b)", "(^(b))", "not ^not b", "(^)", "not ^)", "(^;", "not ^then", "(^256)", "not ^" + long + "a", "(^+"} {
				fault(t, tree.Parse, ahead+in+one+out+behind, api.ErrLimit)
			}
			if out != "" { // else what is behind it lies in none of them
				fault(t, tree.Parse, ahead+in+"b or not ^b"+out+behind, api.ErrLimit)
				fault(t, tree.Parse, ahead+in+"b + (^b)"+out+behind, api.ErrLimit)
			}
			fault(t, tree.Parse, ahead+in+"(^", api.ErrLimit)
			fault(t, tree.Parse, ahead+in+"not ^", api.ErrLimit)
			fault(t, tree.Parse, ahead+in+"^)"+out+behind, api.ErrForm)
			fault(t, tree.Parse, ahead+in+"^256"+out+behind, api.ErrLimit)
			fault(t, tree.Parse, ahead+in+"b ^b"+out+behind, api.ErrForm)
		}
	}
}

// Promise 2.1 and rule P3: of several faults the first from the left is told.
func TestWhichFirst(t *testing.T) {
	for _, s := range []string{
		"begin ^" + long + "a a := 1; end",
		"begin a := ^256 256; end",
		"begin a(^256; end",
		"begin a := ^" + long + "a.in; end",
		"in ^" + long + "a bool; begin end",
		"begin a := b.^" + long + "a end",
	} {
		fault(t, tree.Parse, s, api.ErrLimit)
	}
	for _, s := range []string{
		"begin a ^" + long + "a := 256; end",
		"begin a := b ^c + 256; end",
		"in a ^bool; in " + long + "a: bool;",
		"begin a(1 ^256); end",
		"begin a := (^) + 256; end",
	} {
		fault(t, tree.Parse, s, api.ErrForm)
	}
}

// Promise 2.2: Decls.
func TestDecls(t *testing.T) {
	for text, want := range map[string][]api.Decl{
		"":                                    nil,
		" \n\t":                               nil,
		"in a: bool;":                         {{Name: "a", Way: api.In, Type: api.Bool}},
		"in a: byte; in a: byte;":             {{Name: "a", Way: api.In, Type: api.Byte}, {Name: "a", Way: api.In, Type: api.Byte}},
		"out q: bool;":                        {{Name: "q", Way: api.Out, Type: api.Bool}},
		"out q: bool = true;":                 {{Name: "q", Way: api.Out, Type: api.Bool, Init: 1}},
		"out q: bool = false;":                {{Name: "q", Way: api.Out, Type: api.Bool}},
		"out q: byte = 200;":                  {{Name: "q", Way: api.Out, Type: api.Byte, Init: 200}},
		"var v: byte; var w: bool = true;":    {{Name: "v", Way: api.Var, Type: api.Byte}, {Name: "w", Way: api.Var, Type: api.Bool, Init: 1}},
		"var v: byte = 0; var w: byte = 255;": {{Name: "v", Way: api.Var, Type: api.Byte}, {Name: "w", Way: api.Var, Type: api.Byte, Init: 255}},
		"timer t; counter c; edge e; in z: bool;": {
			{Name: "t", Way: api.Var, Type: api.Timer}, {Name: "c", Way: api.Var, Type: api.Counter},
			{Name: "e", Way: api.Var, Type: api.Edge}, {Name: "z", Way: api.In, Type: api.Bool},
		},
	} {
		if got, err := tree.Decls(text); err != nil || len(got) != len(want) || len(want) > 0 && !reflect.DeepEqual(got, want) {
			t.Errorf("%q: %+v, %v", text, got, err)
		}
		if got := parse(t, text+"begin end").Decls; len(got) != len(want) || len(want) > 0 && !reflect.DeepEqual(got, want) {
			t.Errorf("%q, as a program: %+v", text, got)
		}
	}
}

// Promise 2.2: expressions, and where they begin.
func TestExpr(t *testing.T) {
	for text, want := range map[string]*api.Expr{
		"a":                    name(0, "a"),
		"a.q":                  field(0, "a", "q"),
		"a . q":                field(0, "a", "q"),
		"true":                 bit(0, 1),
		"false":                bit(0, 0),
		"7":                    octet(0, 7),
		"(a)":                  name(1, "a"),
		"((7))":                octet(2, 7),
		"not a":                not(0, name(4, "a")),
		"not not (not a)":      not(0, not(4, not(9, name(13, "a")))),
		"a + b":                bin(0, "+", name(0, "a"), name(4, "b")),
		"(a + b)":              bin(1, "+", name(1, "a"), name(5, "b")),
		"(a) + b":              bin(0, "+", name(1, "a"), name(6, "b")),
		"((a) + b)":            bin(1, "+", name(2, "a"), name(7, "b")),
		"((a + b)) - c":        bin(0, "-", bin(2, "+", name(2, "a"), name(6, "b")), name(12, "c")),
		"a - b + c":            bin(0, "+", bin(0, "-", name(0, "a"), name(4, "b")), name(8, "c")),
		"a - (b + c)":          bin(0, "-", name(0, "a"), bin(5, "+", name(5, "b"), name(9, "c"))),
		"a = b <> c":           bin(0, "<>", bin(0, "=", name(0, "a"), name(4, "b")), name(9, "c")),
		"a < b + c":            bin(0, "<", name(0, "a"), bin(4, "+", name(4, "b"), name(8, "c"))),
		"a + b < c":            bin(0, "<", bin(0, "+", name(0, "a"), name(4, "b")), name(8, "c")),
		"a and b = c":          bin(0, "and", name(0, "a"), bin(6, "=", name(6, "b"), name(10, "c"))),
		"a xor b and c":        bin(0, "xor", name(0, "a"), bin(6, "and", name(6, "b"), name(12, "c"))),
		"a or b xor c":         bin(0, "or", name(0, "a"), bin(5, "xor", name(5, "b"), name(11, "c"))),
		"a and b xor c or d":   bin(0, "or", bin(0, "xor", bin(0, "and", name(0, "a"), name(6, "b")), name(12, "c")), name(17, "d")),
		"not a = b":            bin(0, "=", not(0, name(4, "a")), name(8, "b")),
		"not (a = b)":          not(0, bin(5, "=", name(5, "a"), name(9, "b"))),
		"not a and not b":      bin(0, "and", not(0, name(4, "a")), not(10, name(14, "b"))),
		"(not a) or (a and b)": bin(0, "or", not(1, name(5, "a")), bin(12, "and", name(12, "a"), name(18, "b"))),
		"t.q and 1 >= c.cv - 2": bin(0, "and", field(0, "t", "q"),
			bin(8, ">=", octet(8, 1), bin(13, "-", field(13, "c", "cv"), octet(20, 2)))),
	} {
		if got := expr(t, text); !reflect.DeepEqual(got, want) {
			t.Errorf("%q: %s", text, tree.Text(got))
		}
	}
}

// Promise 2.2: statements, and where they begin.
func TestStmts(t *testing.T) {
	for text, want := range map[string][]api.Stmt{
		"":               nil,
		"a := b;":        {{Code: api.Set, Name: "a", Value: name(11, "b")}},
		"a := (b);":      {{Code: api.Set, Name: "a", Value: name(12, "b")}},
		"t(b);":          {{Code: api.Call, Name: "t", Args: []*api.Expr{name(8, "b")}}},
		"t(b, c);":       {{Code: api.Call, Name: "t", Args: []*api.Expr{name(8, "b"), name(11, "c")}}},
		"if a then end;": {{Code: api.If, Value: name(9, "a")}},
		"if a then b := c; d(e); end;": {{Code: api.If, Value: name(9, "a"), Then: []api.Stmt{
			{Code: api.Set, At: 16, Name: "b", Value: name(21, "c")}, {Code: api.Call, At: 24, Name: "d", Args: []*api.Expr{name(26, "e")}}}}},
		"if a then else end;": {{Code: api.If, Value: name(9, "a")}},
		"if a then else b := c; end;": {{Code: api.If, Value: name(9, "a"), Else: []api.Stmt{
			{Code: api.Set, At: 21, Name: "b", Value: name(26, "c")}}}},
		"if a then if b then end; else if c then end; end;": {{Code: api.If, Value: name(9, "a"),
			Then: []api.Stmt{{Code: api.If, At: 16, Value: name(19, "b")}},
			Else: []api.Stmt{{Code: api.If, At: 36, Value: name(39, "c")}}}},
		"if a then elsif b then end;": {{Code: api.If, Value: name(9, "a"), Else: []api.Stmt{
			{Code: api.If, At: 16, Value: name(22, "b")}}}},
		"if a then elsif b then elsif c then d(e); else f(g); end;": {{Code: api.If, Value: name(9, "a"), Else: []api.Stmt{
			{Code: api.If, At: 16, Value: name(22, "b"), Else: []api.Stmt{
				{Code: api.If, At: 29, Value: name(35, "c"),
					Then: []api.Stmt{{Code: api.Call, At: 42, Name: "d", Args: []*api.Expr{name(44, "e")}}},
					Else: []api.Stmt{{Code: api.Call, At: 53, Name: "f", Args: []*api.Expr{name(55, "g")}}}}}}}}},
	} {
		for i := range want {
			want[i].At = 6
		}
		if got := parse(t, "begin "+text+" end").Body; len(got) != len(want) || len(want) > 0 && !reflect.DeepEqual(got, want) {
			t.Errorf("%q: %+v", text, got)
		}
	}
	p := parse(t, "begin a := b; t(c); if a then end; end")
	if len(p.Body) != 3 || p.Body[0].At != 6 || p.Body[1].At != 14 || p.Body[2].At != 20 {
		t.Errorf("three statements: %+v", p.Body)
	}
}

// Promise 2.1: in a call a NUMBER right ahead of ), where an EXPR may begin, is the BYTE at its end.
func TestCallNumber(t *testing.T) {
	for text, want := range map[string]api.Stmt{
		"t(5)":          {N: 5},
		"t(0)":          {},
		"t ( 005 )":     {N: 5},
		"t(b, 5)":       {N: 5, Args: []*api.Expr{name(0, "b")}},
		"t(b, 0)":       {Args: []*api.Expr{name(0, "b")}},
		"t(b, c, 5)":    {N: 5, Args: []*api.Expr{name(0, "b"), name(0, "c")}},
		"t(4, 5)":       {N: 5, Args: []*api.Expr{octet(0, 4)}},
		"t(4, b)":       {Args: []*api.Expr{octet(0, 4), name(0, "b")}},
		"t(4 + 5)":      {Args: []*api.Expr{bin(0, "+", octet(0, 4), octet(0, 5))}},
		"t(4 + 5, 6)":   {N: 6, Args: []*api.Expr{bin(0, "+", octet(0, 4), octet(0, 5))}},
		"t(b = 5)":      {Args: []*api.Expr{bin(0, "=", name(0, "b"), octet(0, 5))}},
		"t(not 5)":      {Args: []*api.Expr{not(0, octet(0, 5))}},
		"t((5))":        {Args: []*api.Expr{octet(0, 5)}},
		"t((5), 6)":     {N: 6, Args: []*api.Expr{octet(0, 5)}},
		"t(b and (5))":  {Args: []*api.Expr{bin(0, "and", name(0, "b"), octet(0, 5))}},
		"t((5) + b, 6)": {N: 6, Args: []*api.Expr{bin(0, "+", octet(0, 5), name(0, "b"))}},
		"t(true)":       {Args: []*api.Expr{bit(0, 1)}},
		"t(u.v)":        {Args: []*api.Expr{field(0, "u", "v")}},
	} {
		want.Code, want.Name = api.Call, "t"
		if got := placelessBody(parse(t, "begin "+text+"; end").Body); !reflect.DeepEqual(got, []api.Stmt{want}) {
			t.Errorf("%q: %+v", text, got)
		}
	}
}

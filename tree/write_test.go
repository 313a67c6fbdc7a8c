package tree_test

import (
	"reflect"
	"strings"
	"testing"

	"rungwork/api"
	"rungwork/plain"
	"rungwork/tree"
)

var ops = strings.Fields("or xor and = <> < <= > >= + -")

// Promise 2.3: Text.
func TestText(t *testing.T) {
	for text, want := range map[string]string{
		"a":                          "a",
		"a . q":                      "a.q",
		"007":                        "7",
		"0":                          "0",
		"true":                       "true",
		"false":                      "false",
		"((a))":                      "a",
		"not a":                      "not a",
		"not(not(a))":                "not not a",
		"not(a)or b":                 "not a or b",
		"not(a or b)":                "not (a or b)",
		"not(a.q)":                   "not a.q",
		"a+b-c":                      "a + b - c",
		"(a+b)-c":                    "a + b - c",
		"a-(b+c)":                    "a - (b + c)",
		"a+(b+c)":                    "a + (b + c)",
		"a or(b or c)":               "a or (b or c)",
		"a=(b<>c)":                   "a = (b <> c)",
		"(a=b)<>c":                   "a = b <> c",
		"(a or b)and(c xor d)":       "(a or b) and (c xor d)",
		"(a and b)or(c and d)":       "a and b or c and d",
		"(a<b)and(c>=(d+e))":         "a < b and c >= d + e",
		"(a<b)+c":                    "(a < b) + c",
		"a<(b and c)":                "a < (b and c)",
		"(not a)=(not b)":            "not a = not b",
		"((a or b)and c)or(d)":       "(a or b) and c or d",
		"not((a and b)or(c.q))xor 1": "not (a and b or c.q) xor 1",
	} {
		if got := tree.Text(expr(t, text)); got != want {
			t.Errorf("%q: %q, want %q", text, got, want)
		}
	}
}

// shapes are all expressions of at most so many marks of two or nots, one nested in another.
func shapes(deep int) []*api.Expr {
	l := []*api.Expr{name(0, "a")}
	if deep == 0 {
		return l
	}
	below := shapes(deep - 1)
	for _, x := range below {
		l = append(l, not(0, x))
		for _, op := range ops {
			l = append(l, bin(0, op, x, octet(0, 7)), bin(0, op, field(0, "t", "q"), x))
		}
	}
	return l
}

// Promise 2.3: ( and ) stand just where they must be: with them the text is read as it was, and without any pair of them it is another one.
func TestTextParens(t *testing.T) {
	for _, x := range shapes(3) {
		text := tree.Text(x)
		if got := placeless(expr(t, text)); !reflect.DeepEqual(got, x) {
			t.Fatalf("%q is read as %q", text, tree.Text(got))
		}
		for _, less := range withoutPair(text) {
			if reflect.DeepEqual(placeless(expr(t, less)), x) {
				t.Fatalf("%q: %q would do", text, less)
			}
		}
		if strings.Contains(text, "  ") || strings.Contains(text, "( ") || strings.Contains(text, " )") {
			t.Fatalf("blanks: %q", text)
		}
	}
}

// withoutPair are a text's forms with one pair of ( and ) taken out.
func withoutPair(s string) []string {
	var out []string
	var open []int
	for i, c := range s {
		switch c {
		case '(':
			open = append(open, i)
		case ')':
			from := open[len(open)-1]
			open = open[:len(open)-1]
			out = append(out, s[:from]+s[from+1:i]+s[i+1:])
		}
	}
	return out
}

// Promise 2.3: of what is put together of expressions, however deep.
func TestTextDeep(t *testing.T) {
	x, left, right := name(0, "a"), name(0, "a"), name(0, "a")
	const many = 1000
	for range many {
		x, left, right = not(0, x), bin(0, "and", left, x), bin(0, "or", name(0, "b"), right)
	}
	if got, want := tree.Text(x), strings.Repeat("not ", many)+"a"; got != want {
		t.Errorf("%d nots: %.80q", many, got)
	}
	if got, want := tree.Text(right), strings.Repeat("b or (", many-1)+"b or a"+strings.Repeat(")", many-1); got != want {
		t.Errorf("%d from the right: %.80q", many, got)
	}
	if got := tree.Text(left); strings.Contains(got, "(") || strings.Count(got, "and") != many {
		t.Errorf("%d from the left: %.80q", many, got)
	}
	if got := tree.Text(nil); got != "" {
		t.Errorf("of nothing: %q", got)
	}
}

// Promise 2.3: Line.
func TestLine(t *testing.T) {
	for want, d := range map[string]api.Decl{
		"in a: bool;\n":         {Name: "a", Way: api.In, Type: api.Bool},
		"in a: byte;\n":         {Name: "a", Way: api.In, Type: api.Byte},
		"out q: bool;\n":        {Name: "q", Way: api.Out, Type: api.Bool},
		"out q: bool = true;\n": {Name: "q", Way: api.Out, Type: api.Bool, Init: 1},
		"out m: byte = 200;\n":  {Name: "m", Way: api.Out, Type: api.Byte, Init: 200},
		"out m: byte = 1;\n":    {Name: "m", Way: api.Out, Type: api.Byte, Init: 1},
		"var v: bool = true;\n": {Name: "v", Way: api.Var, Type: api.Bool, Init: 1},
		"var k: byte;\n":        {Name: "k", Way: api.Var, Type: api.Byte},
		"var k: byte = 255;\n":  {Name: "k", Way: api.Var, Type: api.Byte, Init: 255},
		"timer t;\n":            {Name: "t", Way: api.Var, Type: api.Timer},
		"counter c;\n":          {Name: "c", Way: api.Var, Type: api.Counter},
		"edge abcdefghijkl;\n":  {Name: "abcdefghijkl", Way: api.Var, Type: api.Edge},
	} {
		if got := tree.Line(d); got != want {
			t.Errorf("%+v: %q, want %q", d, got, want)
		}
		if l, err := tree.Decls(want); err != nil || !reflect.DeepEqual(l, []api.Decl{d}) {
			t.Errorf("%q is read as %+v, %v", want, l, err)
		}
	}
	for _, d := range []api.Decl{
		{}, {Name: "a"}, {Name: "a", Way: api.In}, {Name: "a", Type: api.Bool}, {Name: "a", Way: -1, Type: api.Bool}, {Name: "a", Way: 4, Type: api.Byte},
		{Name: "a", Way: api.Var, Type: 6}, {Name: "a", Way: api.Var, Type: -1}, {Name: "a", Way: api.In, Type: api.Timer}, {Name: "a", Type: api.Edge},
		{Name: "a", Way: 1 << 60, Type: -1 << 60, Init: 5},
	} {
		if got := tree.Line(d); got != "" {
			t.Errorf("%+v, which is no declaration: %q", d, got)
		}
	}
}

// Promise 2.3: Print.
func TestPrint(t *testing.T) {
	const given = `in a:bool; out q:bool=true; out m:byte=200; var k:byte=0; timer t; counter c; edge e; begin
q:=a or(q and not e.q); t(a,5); c(a,q,0); e(a); t(7); c((9)); m:=m+(1);
if a then if q then end; elsif t.et>3 then q:=false; else if e.q then m:=0; else q:=true; end; end; if a then else end; end`
	const want = `in a: bool;
out q: bool = true;
out m: byte = 200;
var k: byte;
timer t;
counter c;
edge e;
begin
  q := a or q and not e.q;
  t(a, 5);
  c(a, q, 0);
  e(a, 0);
  t(7);
  c(9, 0);
  m := m + 1;
  if a then
    if q then
    end;
  else
    if t.et > 3 then
      q := false;
    else
      if e.q then
        m := 0;
      else
        q := true;
      end;
    end;
  end;
  if a then
  end;
end
`
	if got := tree.Print(parse(t, given)); got != want {
		t.Errorf("%s", got)
	}
	if got := tree.Print(parse(t, want)); got != want {
		t.Errorf("printed again: %s", got)
	}
	if got := tree.Print(api.Program{}); got != "begin\nend\n" {
		t.Errorf("of nothing: %q", got)
	}
}

// drawn is an expression, so deep.
func drawn(d *dice, deep int) string {
	if deep == 0 || d.below(4) == 0 {
		return []string{"a", "t.et", "7", "true", "false", "255", "k_1"}[d.below(7)]
	}
	switch d.below(4) {
	case 0:
		return "not " + drawn(d, deep-1)
	case 1:
		return "(" + drawn(d, deep-1) + ")"
	}
	return drawn(d, deep-1) + " " + ops[d.below(len(ops))] + " " + drawn(d, deep-1)
}

// drawnStmts are statements, so deep.
func drawnStmts(d *dice, deep int) string {
	s := ""
	for range d.below(4) {
		switch d.below(4) {
		case 0:
			s += "q := " + drawn(d, 3) + "; "
		case 1:
			s += "t(" + drawn(d, 2) + ", " + drawn(d, 0) + "); "
		case 2:
			s += "t(" + drawn(d, 1) + "); "
		default:
			if deep > 0 {
				s += "if " + drawn(d, 2) + " then " + drawnStmts(d, deep-1) + []string{"", "else ", "elsif a then "}[d.below(3)] + drawnStmts(d, deep-1) + "end; "
			}
		}
	}
	return s
}

// Promise 2.3: what is written is read as it was.
func TestWrittenIsRead(t *testing.T) {
	d := dice(1)
	read := 0
	for range 3000 {
		text := "in a: bool; out q: bool = true; var k_1: byte = 9; timer t; begin " + drawnStmts(&d, 3) + "end"
		p, err := tree.Parse(text)
		if err != nil {
			if e, at := plain.Place(err); e != api.ErrLimit || at < 0 {
				t.Fatalf("%q: error %d at %d", text, e, at)
			}
			continue
		}
		printed := tree.Print(p)
		again, err := tree.Parse(printed)
		if e, _ := plain.Place(err); e == api.ErrLimit {
			continue // an elsif has fewer tokens than the if that is written for it
		}
		read++
		if err != nil || !reflect.DeepEqual(again.Decls, p.Decls) || !reflect.DeepEqual(placelessBody(again.Body), placelessBody(p.Body)) {
			t.Fatalf("%q is written %q", text, printed)
		}
		if twice := tree.Print(again); twice != printed {
			t.Fatalf("%q is written %q, and then %q", text, printed, twice)
		}
	}
	if read < 1000 {
		t.Errorf("only %d were read", read)
	}
}

// Rules P1 to P3: whatever is given, a call ends, and an error is an At at a place of the text.
func TestAnyText(t *testing.T) {
	words := append(append(strings.Fields(":= <> <= >= < > = + - ( ) , ; : . 0 7 255 256 a b_1 "+long+" "+long+"z"), kept...), "$", "\x00", "\xff")
	d := dice(2)
	for range 20000 {
		b := strings.Fields("in a : bool ; begin if a then a := not ( b + 1 ) ; t ( a , 5 ) ; elsif b then end ; end")
		for range d.below(4) {
			b[d.below(len(b))] = words[d.below(len(words))]
		}
		text := strings.Join(b[:d.below(len(b)+1)], []string{" ", "\n"}[d.below(2)])
		p, err := tree.Parse(text)
		l, failed := tree.Decls(text)
		for _, e := range []error{err, failed} {
			number, at := plain.Place(e)
			if e != nil && (number != api.ErrForm && number != api.ErrLimit || at < 0 || at > len(text)) {
				t.Fatalf("%q: error %d at %d", text, number, at)
			}
		}
		if err != nil && !reflect.DeepEqual(p, api.Program{}) || failed != nil && l != nil {
			t.Fatalf("%q: something beside an error", text)
		}
		tree.Print(p)
		tree.Name(text)
	}
}

// Rule P4: what comes out is the caller's alone.
func TestFresh(t *testing.T) {
	const text = "in a: bool; begin if a then t(a, 3); else a := a; end; end"
	first, want := parse(t, text), parse(t, text)
	first.Decls[0] = api.Decl{}
	*first.Body[0].Value = api.Expr{}
	*first.Body[0].Then[0].Args[0] = api.Expr{}
	first.Body[0].Then[0].Args[0] = nil
	first.Body[0].Else[0] = api.Stmt{}
	if got := parse(t, text); !reflect.DeepEqual(got, want) {
		t.Errorf("after a change of another answer: %+v", got)
	}
	printed := tree.Print(want)
	if got := parse(t, text); !reflect.DeepEqual(got, want) || tree.Print(want) != printed {
		t.Errorf("writing changed something")
	}
}

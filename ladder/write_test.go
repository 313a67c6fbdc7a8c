package ladder_test

import (
	"strconv"
	"strings"
	"testing"

	"rungwork/api"
	"rungwork/check"
	"rungwork/ladder"
	"rungwork/plain"
	"rungwork/tree"
)

// Promise 4.2: Print.
func TestPrint(t *testing.T) {
	for text, want := range map[string]string{
		"":                    "",
		" \n\n":               "",
		"(q)":                 "(q)\n",
		"  ( / q )":           "(/q)\n",
		"(S   q)":             "(S q)\n",
		"( R q)":              "(R q)\n",
		"a(q)":                "a (q)\n",
		"/ a(/ q)":            "/a (/q)\n",
		"a/b   c(R   q)":      "a /b c (R q)\n",
		"[a](q)":              "[a] (q)\n",
		"[](q)":               "[] (q)\n",
		"[ | ](q)":            "[ | ] (q)\n",
		"[a|](q)":             "[a | ] (q)\n",
		"[|a](q)":             "[ | a] (q)\n",
		"[||](q)":             "[ |  | ] (q)\n",
		"[a b|/c|d](q)":       "[a b | /c | d] (q)\n",
		"x[a]y[[b|c]d|e]z(q)": "x [a] y [[b | c] d | e] z (q)\n",
		"[a][b](q)":           "[a] [b] (q)\n",
		"a [/b|c d] (S q)":    "a [/b | c d] (S q)\n",
		"(q)\n\n a(x)\n":      "(q)\na (x)\n",
	} {
		if got := ladder.Print(parse(t, text)); got != want {
			t.Errorf("%q: %q, want %q", text, got, want)
		}
		if got := ladder.Print(parse(t, want)); got != want {
			t.Errorf("%q, printed again: %q", want, got)
		}
	}
	if got := ladder.Print(nil); got != "" {
		t.Errorf("of nothing: %q", got)
	}
}

// Promise 4.2: Body, as text.
func TestBody(t *testing.T) {
	for text, want := range map[string]string{
		"(q)":              "q := true;",
		"(/q)":             "q := not true;",
		"(S q)":            "if true then q := true; end;",
		"(R q)":            "if true then q := false; end;",
		"a (q)":            "q := a;",
		"/a (q)":           "q := not a;",
		"a (/q)":           "q := not a;",
		"/a (/q)":          "q := not not a;",
		"a b (/q)":         "q := not (a and b);",
		"a (S q)":          "if a then q := true; end;",
		"a (R q)":          "if a then q := false; end;",
		"a /b c (q)":       "q := a and not b and c;",
		"[a] (q)":          "q := a;",
		"[] (q)":           "q := true;",
		"[|] (q)":          "q := true or true;",
		"[a|] (q)":         "q := a or true;",
		"[a|b|c] (q)":      "q := a or b or c;",
		"[a|[b|c]] (q)":    "q := a or (b or c);",
		"[[a|b]|c] (q)":    "q := a or b or c;",
		"a [b c] d (q)":    "q := a and (b and c) and d;",
		"[a b] c (q)":      "q := a and b and c;",
		"[a b|/c d] e (q)": "q := (a and b or not c and d) and e;",
		"[a|b] (/q)":       "q := not (a or b);",
		"a [/b|c d] (S q)": "if a and (not b or c and d) then q := true; end;",
		"a (q)\n /q (R a)": "q := a; if not q then a := false; end;",
	} {
		got := tree.Print(api.Program{Body: ladder.Body(parse(t, text))})
		if all := "begin " + want + " end"; strings.Join(strings.Fields(got), " ") != all {
			t.Errorf("%q: %q, want %q", text, got, all)
		}
	}
	if got := ladder.Body(nil); len(got) != 0 {
		t.Errorf("of nothing: %+v", got)
	}
}

// whole writes a statement with all its fields, so that one that should be its zero value is seen, too.
func whole(s api.Stmt) string {
	out := "stmt " + strconv.Itoa(s.Code) + " at " + strconv.Itoa(s.At) + " " + s.Name + " n " + strconv.Itoa(s.N) + " args " + strconv.Itoa(len(s.Args)) + " (" + wholeExpr(s.Value) + ")"
	for _, x := range s.Then {
		out += " then {" + whole(x) + "}"
	}
	for _, x := range s.Else {
		out += " else {" + whole(x) + "}"
	}
	return out
}

func wholeExpr(x *api.Expr) string {
	if x == nil {
		return "none"
	}
	return strings.Join([]string{strconv.Itoa(x.Code), "at", strconv.Itoa(x.At), strconv.Itoa(x.N), strconv.Itoa(x.Type), x.Name, x.Field, x.Op, "(" + wholeExpr(x.Left) + ")", "(" + wholeExpr(x.Right) + ")"}, " ")
}

// moved gives all that a statement is made of a place.
func moved(s api.Stmt, at int) api.Stmt {
	s.At = at
	movedExpr(s.Value, at)
	for i := range s.Then {
		s.Then[i] = moved(s.Then[i], at)
	}
	return s
}

func movedExpr(x *api.Expr, at int) {
	if x != nil {
		x.At = at
		movedExpr(x.Left, at)
		movedExpr(x.Right, at)
	}
}

// Promise 4.2: the At of all of a statement is its rung (not its line), from 0 on; each field is as what tree reads of the same.
func TestBodyPlaces(t *testing.T) {
	rungs := []string{"(q)", "a /b (/q)", "[a|/b c|] (S q)", "/a [] (R q)", "x (q)"}
	stmts := []string{"q := true;", "q := not (a and not b);", "if a or not b and c or true then q := true; end;", "if not a and true then q := false; end;", "q := x;"}
	body := ladder.Body(parse(t, "\n\n"+strings.Join(rungs, "\n  \n")+"\n"))
	if len(body) != len(rungs) {
		t.Fatalf("%d statements", len(body))
	}
	for i, s := range stmts {
		p, err := tree.Parse("begin " + s + " end")
		if err != nil {
			t.Fatal(err)
		}
		if got, want := whole(body[i]), whole(moved(p.Body[0], i)); got != want {
			t.Errorf("%q: %s, want %s", rungs[i], got, want)
		}
	}
}

// drawnCells are cells, so deep.
func drawnCells(d *dice, deep int) string {
	var l []string
	for range d.below(4) {
		if deep == 0 || d.below(3) > 0 {
			l = append(l, []string{"", "/"}[d.below(2)]+string("abcd"[d.below(4)]))
			continue
		}
		var w []string
		for range 1 + d.below(3) {
			w = append(w, drawnCells(d, deep-1))
		}
		l = append(l, "["+strings.Join(w, "|")+"]")
	}
	return strings.Join(l, " ")
}

// power says whether power comes through cells, while these names hold.
func power(l []ladder.Cell, holds map[string]bool) bool {
	for _, c := range l {
		through := holds[c.Name] != c.Not
		if len(c.Ways) > 0 {
			through = false
			for _, w := range c.Ways {
				through = through || power(w, holds)
			}
		}
		if !through {
			return false
		}
	}
	return true
}

// told is what an expression of bits tells, while these names hold.
func told(x *api.Expr, holds map[string]bool) bool {
	switch x.Code {
	case api.Num:
		return x.N == 1
	case api.Name:
		return holds[x.Name]
	case api.Not:
		return !told(x.Left, holds)
	}
	if x.Op == "and" {
		return told(x.Left, holds) && told(x.Right, holds)
	}
	return told(x.Left, holds) || told(x.Right, holds)
}

// after is what q is behind a statement.
func after(s api.Stmt, holds map[string]bool) bool {
	if s.Code == api.Set {
		return told(s.Value, holds)
	}
	if told(s.Value, holds) {
		return told(s.Then[0].Value, holds)
	}
	return holds["q"]
}

// Promises 4.1, 4.2: what is written is read as it was; power finds its way.
func TestPowerFindsItsWay(t *testing.T) {
	d := dice(9)
	for range 3000 {
		kind := d.below(4)
		text := drawnCells(&d, 3) + "(" + []string{"", "/", "S ", "R "}[kind] + "q)"
		l := parse(t, text)
		if again := parse(t, ladder.Print(l)); !same(again, l) {
			t.Fatalf("%q is written %q", text, ladder.Print(l))
		}
		s := ladder.Body(l)[0]
		for bits := range 32 {
			holds := map[string]bool{"a": bits&1 > 0, "b": bits&2 > 0, "c": bits&4 > 0, "d": bits&8 > 0, "q": bits&16 > 0}
			on := power(l[0].Cells, holds)
			want := [...]bool{on, !on, on || holds["q"], !on && holds["q"]}[kind]
			if after(s, holds) != want {
				t.Fatalf("%q, of %v: %v", text, holds, !want)
			}
		}
	}
}

// Promise 4.2 (3.2): statements of rungs are looked at as others are, and faults told at their rungs.
func TestBodyIsChecked(t *testing.T) {
	p, err := tree.Parse("in a: bool; out q: bool; begin end")
	if err != nil {
		t.Fatal(err)
	}
	p.Body = ladder.Body(parse(t, "a (q)\n[a|] (S q)\n(/q)"))
	if err := check.Check(p); err != nil {
		t.Errorf("%v", err)
	}
	p.Body = ladder.Body(parse(t, "a (q)\n\n[a|z] (S q)"))
	if e, at := plain.Place(check.Check(p)); e != api.ErrMissing || at != 1 {
		t.Errorf("error %d at %d", e, at)
	}
}

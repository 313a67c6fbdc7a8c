package ladder_test

import (
	"errors"
	"math"
	"reflect"
	"regexp"
	"strings"
	"testing"

	"rungwork/api"
	"rungwork/ladder"
	"rungwork/plain"
)

// kept are the words that are no names.
var kept = strings.Fields("in out var bool byte timer counter edge begin end if then elsif else and or xor not true false")

// long is a name of just as many letters as may be.
const long = "abcdefghij_9"

// on, off, and ways are cells.
func on(name string) ladder.Cell           { return ladder.Cell{Name: name} }
func off(name string) ladder.Cell          { return ladder.Cell{Name: name, Not: true} }
func ways(l ...[]ladder.Cell) ladder.Cell  { return ladder.Cell{Ways: l} }
func cells(l ...ladder.Cell) []ladder.Cell { return l }

// parse reads rungs that must be right.
func parse(t *testing.T, text string) []ladder.Rung {
	t.Helper()
	l, err := ladder.Parse(text)
	if err != nil {
		e, at := plain.Place(err)
		t.Fatalf("%q: error %d at %d", text, e, at)
	}
	return l
}

// fault asks for an error of a text, at a line, and for nothing beside it.
func fault(t *testing.T, text string, want api.Errno, line int) {
	t.Helper()
	l, err := ladder.Parse(text)
	if e, at := plain.Place(err); e != want || at != line {
		t.Errorf("%.200q: error %d at %d, want %d at %d", text, e, at, want, line)
	}
	if l != nil {
		t.Errorf("%.200q: beside the error %+v", text, l)
	}
}

// nested is a line whose contact lies in so many [.
func nested(deep int) string {
	return strings.Repeat("[", deep) + "a" + strings.Repeat("]", deep) + "(q)"
}

// dice are numbers that look drawn, the same each time.
type dice uint64

func (d *dice) below(most int) int {
	*d = *d*6364136223846793005 + 1442695040888963407
	return int(uint64(*d>>33) % uint64(most))
}

// same holds rungs against each other; lists of none are alike, nil or not.
func same(x, y []ladder.Rung) bool {
	if len(x) != len(y) {
		return false
	}
	for i := range x {
		if x[i].Kind != y[i].Kind || x[i].Name != y[i].Name || !sameCells(x[i].Cells, y[i].Cells) {
			return false
		}
	}
	return true
}

func sameCells(x, y []ladder.Cell) bool {
	if len(x) != len(y) {
		return false
	}
	for i := range x {
		if x[i].Name != y[i].Name || x[i].Not != y[i].Not || len(x[i].Ways) != len(y[i].Ways) {
			return false
		}
		for j := range x[i].Ways {
			if !sameCells(x[i].Ways[j], y[i].Ways[j]) {
				return false
			}
		}
	}
	return true
}

// Promise 4.1: kinds of coils are told from 1 on.
func TestKinds(t *testing.T) {
	if got := [...]int{ladder.Plain, ladder.Turned, ladder.Latch, ladder.Unlatch}; got != [...]int{1, 2, 3, 4} {
		t.Errorf("%v", got)
	}
}

// Promise 4.1: which rung a line is.
func TestParse(t *testing.T) {
	for text, want := range map[string]ladder.Rung{
		"(q)":                   {Kind: ladder.Plain, Name: "q"},
		"(/q)":                  {Kind: ladder.Turned, Name: "q"},
		"(S q)":                 {Kind: ladder.Latch, Name: "q"},
		"(R q)":                 {Kind: ladder.Unlatch, Name: "q"},
		"a (q)":                 {Cells: cells(on("a")), Kind: ladder.Plain, Name: "q"},
		"/a (/q)":               {Cells: cells(off("a")), Kind: ladder.Turned, Name: "q"},
		"a(q)":                  {Cells: cells(on("a")), Kind: ladder.Plain, Name: "q"},
		"a b (S q)":             {Cells: cells(on("a"), on("b")), Kind: ladder.Latch, Name: "q"},
		"a/b(q)":                {Cells: cells(on("a"), off("b")), Kind: ladder.Plain, Name: "q"},
		"ab(q)":                 {Cells: cells(on("ab")), Kind: ladder.Plain, Name: "q"},
		"a_b1 _ _9(q_2)":        {Cells: cells(on("a_b1"), on("_"), on("_9")), Kind: ladder.Plain, Name: "q_2"},
		long + "(" + long + ")": {Cells: cells(on(long)), Kind: ladder.Plain, Name: long},
		"[a](q)":                {Cells: cells(ways(cells(on("a")))), Kind: ladder.Plain, Name: "q"},
		"[](q)":                 {Cells: cells(ways(nil)), Kind: ladder.Plain, Name: "q"},
		"[|](q)":                {Cells: cells(ways(nil, nil)), Kind: ladder.Plain, Name: "q"},
		"[a|](q)":               {Cells: cells(ways(cells(on("a")), nil)), Kind: ladder.Plain, Name: "q"},
		"[|a](q)":               {Cells: cells(ways(nil, cells(on("a")))), Kind: ladder.Plain, Name: "q"},
		"[a||b](q)":             {Cells: cells(ways(cells(on("a")), nil, cells(on("b")))), Kind: ladder.Plain, Name: "q"},
		"[a|b|/c d](q)":         {Cells: cells(ways(cells(on("a")), cells(on("b")), cells(off("c"), on("d")))), Kind: ladder.Plain, Name: "q"},
		"x[a]y[b|c]/z(R q)":     {Cells: cells(on("x"), ways(cells(on("a"))), on("y"), ways(cells(on("b")), cells(on("c"))), off("z")), Kind: ladder.Unlatch, Name: "q"},
		"[a][b](q)":             {Cells: cells(ways(cells(on("a"))), ways(cells(on("b")))), Kind: ladder.Plain, Name: "q"},
		"[[a|b]c|[]](q)":        {Cells: cells(ways(cells(ways(cells(on("a")), cells(on("b"))), on("c")), cells(ways(nil)))), Kind: ladder.Plain, Name: "q"},
		"a [/b|c d] (S q)":      {Cells: cells(on("a"), ways(cells(off("b")), cells(on("c"), on("d")))), Kind: ladder.Latch, Name: "q"},
		"s r (s)":               {Cells: cells(on("s"), on("r")), Kind: ladder.Plain, Name: "s"},
		"(r)":                   {Kind: ladder.Plain, Name: "r"},
		"(/s)":                  {Kind: ladder.Turned, Name: "s"},
		"(S s)":                 {Kind: ladder.Latch, Name: "s"},
		"(R r)":                 {Kind: ladder.Unlatch, Name: "r"},
		"(sq)":                  {Kind: ladder.Plain, Name: "sq"},
		"ins (endx)":            {Cells: cells(on("ins")), Kind: ladder.Plain, Name: "endx"},
	} {
		if got := parse(t, text); !same(got, []ladder.Rung{want}) {
			t.Errorf("%q: %+v", text, got)
		}
	}
}

// Promise 4.1: lines are cut at line feeds; those of blanks alone are nothing.
func TestLines(t *testing.T) {
	a, b := ladder.Rung{Kind: ladder.Plain, Name: "a"}, ladder.Rung{Kind: ladder.Turned, Name: "b"}
	for text, want := range map[string][]ladder.Rung{
		"":                             nil,
		" ":                            nil,
		"\n":                           nil,
		"\n\n":                         nil,
		"   \n \n":                     nil,
		"(a)":                          {a},
		"(a)\n":                        {a},
		"(a)\n ":                       {a},
		"\n(a)":                        {a},
		"(a)\n(/b)":                    {a, b},
		"(a)\n(/b)\n":                  {a, b},
		"(/b)\n(a)\n(a)":               {b, a, a},
		"  \n\n (a)\n   \n\n(/b) \n\n": {a, b},
	} {
		if got := parse(t, text); !same(got, want) {
			t.Errorf("%q: %+v", text, got)
		}
	}
}

// Promise 4.1: blanks may stand everywhere, but within a NAME.
func TestBlanks(t *testing.T) {
	const tight = "aa[/b[c|]|d/_1]e(S q)"
	want := parse(t, tight)
	for i := range len(tight) + 1 {
		for _, blanks := range []string{" ", "    "} {
			text := tight[:i] + blanks + tight[i:]
			inside := i > 0 && i < len(tight) && regexp.MustCompile(`^\w\w$`).MatchString(tight[i-1:i+1])
			if inside {
				if got, err := ladder.Parse(text); err == nil && same(got, want) {
					t.Errorf("%q: a NAME with a blank within", text)
				}
				continue
			}
			if got := parse(t, text); !same(got, want) {
				t.Errorf("%q: %+v", text, got)
			}
		}
	}
	if got := parse(t, "  a  [  / b  [  c  | ]|  d  / _1  ]  e  (  S   q  )  "); same(got, want) || len(got) != 1 {
		t.Errorf("aa is not a: %+v", got)
	}
	if got := parse(t, "  aa  [  /  b  [  c  |  ]  |  d  /  _1  ]  e  (  S   q  )  "); !same(got, want) {
		t.Errorf("blanks everywhere: %+v", got)
	}
	if got := parse(t, " ( / q ) "); !same(got, parse(t, "(/q)")) {
		t.Errorf("a turned coil: %+v", got)
	}
	if got := parse(t, "a b(q)"); same(got, parse(t, "ab(q)")) {
		t.Errorf("two NAMEs: %+v", got)
	}
}

// Promise 4.1: ErrForm, an At at the line.
func TestForm(t *testing.T) {
	for _, line := range []string{
		// no coil, more than one, or something behind it
		"a", "a b", "[a]", "(q)(q)", "(q) a", "(q) [", "a (q) ;", "(q) (", "(q))", "(q)]", "a (q) b (x)",
		// coils of no form
		"()", "( )", "(", ")", "(q", "q)", "(q", "a (q", "(q q)", "(/)", "(//q)", "(/S q)", "(S /q)", "(q/)", "(S)", "(R)", "(S )", "(R )", "(S q r)", "(a S q)", "((q))", "([q])", "(T q)", "(Q)",
		// the blank behind S and R; both, or the small letters
		"(Sq)", "(Rq)", "(S(q))", "(S/q)", "(SR q)", "(S R q)", "(R S q)", "(s q)", "(r q)", "(S\tq)", "(R\tq)",
		// cells of no form
		"/ (q)", "//a (q)", "a / (q)", "/[a] (q)", "a | b (q)", "| (q)", "a ] (q)", "] (q)", "[a (q)", "[ (q)", "[a | (q)", "[a|b (q)", "[a]] (q)", "[[a] (q)", "[a (q)] (q)", "[a | (q) | b] (q)", "[(q)]", "[a/] (q)", "[/|a] (q)", "[/] (q)",
		// names of no form
		"1a (q)", "9 (q)", "a (1q)", "a (9)", "A (q)", "aB (q)", "a-b (q)", "a.b (q)", "a.q (q)", "not a (q)", "a and b (q)", "a (q.q)", "S (q)", "R (q)", "a, b (q)", "!a (q)", "a := b",
		// no blanks
		"a\t(q)", "\t(q)", "(q)\t", "\t", "a (q)\r", "\r", "\v(q)", "\f", "\u00a0(q)", "a\u2003(q)", "\x00", "(q)\x00",
		// no letters of a NAME
		"\xff (q)", "é (q)", "a\u0301 (q)", "(\u00fc)", "a\xff (q)", "\ufffd(q)", "a\u212a (q)", "(\u017f)", "(\uff53 q)", "（q）", "\u0661a (q)", "a\u0661 (q)",
		// too long a NAME
		long + "x (q)", "/" + long + "x (q)", "(" + long + "x)", "(S " + long + "x)", "[a | " + long + "x] (q)", strings.Repeat("a", 1000) + " (q)",
	} {
		fault(t, line, api.ErrForm, 0)
		fault(t, "a (q)\n\n"+line, api.ErrForm, 2)
		fault(t, " \n"+line+"\n(q)\n", api.ErrForm, 1)
	}
}

// Promise 4.1 (2.1): a kept word is no NAME.
func TestKeptWords(t *testing.T) {
	for _, w := range kept {
		for _, line := range []string{w + " (q)", "/" + w + " (q)", "a " + w + " (q)", "[a|" + w + "](q)", "(" + w + ")", "(/" + w + ")", "(S " + w + ")", "(R " + w + ")"} {
			fault(t, line, api.ErrForm, 0)
			if len(w)+1 <= api.MaxName {
				parse(t, strings.Replace(line, w, w+"_", 1))
			}
		}
	}
}

// Promise 4.1: ErrLimit where CELLS begin in more than MaxDepth [, ahead of ErrForm.
func TestDepth(t *testing.T) {
	for deep := range api.MaxDepth + 1 {
		l := parse(t, nested(deep))
		at := l[0].Cells
		for range deep {
			at = at[0].Ways[0]
		}
		if !sameCells(at, cells(on("a"))) {
			t.Errorf("in %d: %+v", deep, l)
		}
	}
	for deep := api.MaxDepth + 1; deep < api.MaxDepth+4; deep++ {
		fault(t, nested(deep), api.ErrLimit, 0)
		fault(t, "(q)\n\n"+nested(deep), api.ErrLimit, 2)
	}
	most := strings.Repeat("[", api.MaxDepth)
	closed := strings.Repeat("]", api.MaxDepth)
	for _, inner := range []string{"", "a", "|", "a|b|", "a b /c"} {
		parse(t, most+inner+closed+most+inner+closed+"(q)")
		parse(t, "["+most[1:]+inner+closed[1:]+"|"+most[1:]+inner+closed[1:]+"](q)")
	}
	for _, behind := range []string{"", " ", "]", "$", "\t", "a", "1", ")", "(q)", "|", "[", strings.Repeat("x", 99), strings.Repeat("[", 100000)} {
		fault(t, most+"["+behind, api.ErrLimit, 0)
		fault(t, "a ["+most+behind+"\n$", api.ErrLimit, 0)
		fault(t, "[a|b [c|d|"+most[1:]+behind, api.ErrLimit, 0)
		fault(t, most+" | ["+behind, api.ErrLimit, 0)
		fault(t, most+"a]["+"b | ["+behind, api.ErrLimit, 0)
	}
	for _, line := range []string{"$" + most + "[", ") " + most + "[a", "1 " + nested(9), "a (q) " + nested(9), long + "x " + nested(9), most + "$ [", most + " a / [", most + "]]" + most + "["} {
		want := api.ErrForm
		if strings.HasPrefix(line, most+"]]") {
			want = api.ErrLimit // six are open when the next ones begin
		}
		fault(t, line, want, 0)
	}
	fault(t, most+"$", api.ErrForm, 0)
	fault(t, most+"a", api.ErrForm, 0)
	fault(t, most+"a"+closed+"](q)", api.ErrForm, 0)
}

// Promise 4.1: ErrLimit: a line that is not of blanks alone, whatever it is, behind MaxRungs RUNGs.
func TestMaxRungs(t *testing.T) {
	most := strings.Repeat("a (q)\n", api.MaxRungs)
	for _, behind := range []string{"", "\n", "   ", " \n\n  \n"} {
		if got := parse(t, most+behind); len(got) != api.MaxRungs {
			t.Errorf("%d rungs", len(got))
		}
		for _, line := range []string{"a (q)", "(q)", "$", "[", "\t", "\x00", "(", "in (q)", nested(9), " a"} {
			if behind != "   " {
				fault(t, most+behind+line, api.ErrLimit, api.MaxRungs+strings.Count(behind, "\n"))
				fault(t, most+behind+line+"\n$", api.ErrLimit, api.MaxRungs+strings.Count(behind, "\n"))
			}
		}
	}
	if got := parse(t, "\n \n"+strings.Repeat(" \na (q)\n\n", api.MaxRungs)); len(got) != api.MaxRungs {
		t.Errorf("with lines of blanks between, %d rungs", len(got))
	}
	fault(t, strings.Repeat("\n(q)\n", api.MaxRungs)+"\n(q)", api.ErrLimit, 2*api.MaxRungs+1)
	fault(t, strings.Repeat("a (q)\n", api.MaxRungs-1)+"$", api.ErrForm, api.MaxRungs-1)
	fault(t, strings.Repeat("a (q)\n", api.MaxRungs-1)+nested(9)+"\n$", api.ErrLimit, api.MaxRungs-1)
	if got := parse(t, strings.Repeat("\n", 100000)+"(q)"); len(got) != 1 {
		t.Errorf("behind many lines: %+v", got)
	}
}

// Rule P3: of several lines the first one's fault is told.
func TestFirstLine(t *testing.T) {
	fault(t, "$\n"+nested(9), api.ErrForm, 0)
	fault(t, nested(9)+"\n$", api.ErrLimit, 0)
	fault(t, "(q)\n$\n"+nested(9), api.ErrForm, 1)
	fault(t, "(q)\n"+nested(9)+"\n$", api.ErrLimit, 1)
	fault(t, "$\n"+strings.Repeat("(q)\n", api.MaxRungs+1), api.ErrForm, 0)
	fault(t, strings.Repeat("(q)\n", api.MaxRungs)+"$\n"+nested(9), api.ErrLimit, api.MaxRungs)
	fault(t, "\n\n\n$", api.ErrForm, 3)
}

// Rule P3: an error is an Errno and an At, as errors.As finds them; of none it is nil.
func TestErrorsAsFound(t *testing.T) {
	_, err := ladder.Parse("(q)\n(")
	var e api.Errno
	var at *api.At
	if !errors.As(err, &e) || e != api.ErrForm {
		t.Errorf("the Errno is %d", e)
	}
	if !errors.As(err, &at) || at.Err != api.ErrForm || at.Place != 1 {
		t.Errorf("the At is %+v", at)
	}
	if _, err := ladder.Parse("(q)"); err != nil {
		t.Errorf("of none: %#v", err)
	}
}

// Patterns of lines in which a NAME is n, what is none !, and what stands in [ and ] @.
var (
	names = regexp.MustCompile(`[a-z0-9_]+`)
	name  = regexp.MustCompile(`^[a-z_][a-z0-9_]{0,11}$`)
	inner = regexp.MustCompile(`\[(?: |/ *n|n|@|\|)*\]`)
	all   = regexp.MustCompile(`^(?: |/ *n|n|@)*\( *(?:/ *|[SR] +)?n *\) *$`)
)

// byPatterns says whether a line is a RUNG, by patterns alone: names are marked, then what stands in [ and ], from within, and how many rounds that took.
func byPatterns(line string) (right bool, deep int) {
	s := strings.ReplaceAll(line, "@", "$")
	s = names.ReplaceAllStringFunc(s, func(w string) string {
		if !name.MatchString(w) || strings.Contains(" "+strings.Join(kept, " ")+" ", " "+w+" ") {
			return "!"
		}
		return "n"
	})
	for inner.MatchString(s) {
		s = inner.ReplaceAllString(s, "@")
		deep++
	}
	return all.MatchString(s), deep
}

// Promise 4.1: any text: just the lines that the patterns let through are rungs.
func TestAnyText(t *testing.T) {
	pieces := []string{"[", "]", "|", "(", ")", "/", " ", "S", "R", "a", "b1", "in", "q", "1", "S ", "\t", "\xff", "@", "n", long, "x" + long}
	begins := []string{"a [/b | c d] (S q)", "[[a|b] c|] (/q)", "/a / b (q)", "(R q)", "[|] [] (q)"}
	d := dice(4)
	right := 0
	for range 60000 {
		line := begins[d.below(len(begins))]
		for range d.below(4) {
			i, p := d.below(len(line)+1), pieces[d.below(len(pieces))]
			j := min(len(line), i+d.below(3))
			line = line[:i] + p + line[j:]
		}
		is, deep := byPatterns(line)
		l, err := ladder.Parse("\n" + line)
		if is && deep <= api.MaxDepth {
			right++
			if err != nil || len(l) != 1 {
				t.Fatalf("%q: %v, %+v", line, err, l)
			}
			continue
		}
		if e, at := plain.Place(err); at != 1 || e != api.ErrForm || l != nil {
			if strings.Trim(line, " ") != "" {
				t.Fatalf("%q: error %d at %d", line, e, at)
			}
		}
	}
	if right < 5000 || right > 55000 {
		t.Errorf("%d were right", right)
	}
}

// Rule P1: what Parse never told makes no panic.
func TestNoPanic(t *testing.T) {
	odd := []ladder.Rung{
		{}, {Kind: -1, Name: "q"}, {Kind: 5}, {Kind: math.MaxInt}, {Kind: math.MinInt},
		{Kind: ladder.Plain}, {Kind: ladder.Latch, Cells: make([]ladder.Cell, 2)},
		{Kind: ladder.Plain, Cells: cells(ladder.Cell{Ways: [][]ladder.Cell{}})},
		{Kind: ladder.Plain, Cells: cells(ladder.Cell{Name: "a", Not: true, Ways: [][]ladder.Cell{nil}})},
	}
	ladder.Print(odd)
	ladder.Body(odd)
	if got := ladder.Print(odd[:5]); got != "" {
		t.Errorf("coils of no kind: %q", got)
	}
	if got := ladder.Body(odd[:5]); len(got) != 0 {
		t.Errorf("coils of no kind: %+v", got)
	}
	deep := parse(t, "a (q)")
	for range 60000 {
		deep[0].Cells = cells(ways(deep[0].Cells))
	}
	if got, want := ladder.Print(deep), strings.Repeat("[", 60000)+"a"+strings.Repeat("]", 60000)+" (q)\n"; got != want {
		t.Errorf("what lies deep: %.80q", got)
	}
	if got := ladder.Body(deep); len(got) != 1 || got[0].Value.Name != "a" {
		t.Errorf("what lies deep: %+v", got)
	}
}

// Rule P4: what comes out is the caller's alone.
func TestFresh(t *testing.T) {
	const text = "a [/b|c [d|] e] f (S q)\n(/x)"
	first, want := parse(t, text), parse(t, text)
	body := ladder.Body(want)
	printed := ladder.Print(want)
	if !reflect.DeepEqual(parse(t, text), want) {
		t.Errorf("writing changed something")
	}
	first[0].Cells[1].Ways[1][1].Ways[0] = append(first[0].Cells[1].Ways[1][1].Ways[0], on("z"))
	first[0].Cells[1].Ways[0] = append(first[0].Cells[1].Ways[0], on("z"))
	first[0].Cells[0] = off("z")
	first[0].Cells = append(first[0].Cells, on("z"))
	if got := parse(t, text); !reflect.DeepEqual(got, want) {
		t.Errorf("after a change of another answer: %+v", got)
	}
	if got := ladder.Print(first); got != "/z [/b z | c [d z | ] e] f z (S q)\n(/x)\n" {
		t.Errorf("lists of one answer share something: %q", got)
	}
	again := ladder.Body(want)
	*body[0].Value, body[0].Then[0] = api.Expr{}, api.Stmt{}
	if !reflect.DeepEqual(again, ladder.Body(want)) || ladder.Print(want) != printed {
		t.Errorf("after a change of statements: %+v", again)
	}
}

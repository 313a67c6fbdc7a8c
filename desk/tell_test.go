package desk_test

import (
	"strconv"
	"strings"
	"testing"

	"rungwork/api"
	"rungwork/desk"
)

// count is a program that tells how many cycles it did, and keeps it.
const count = "in a: bool; out m: byte; begin m := m + 1; end"

// Promise 12.1: new takes a program, and tells how many declarations it has.
func TestNew(t *testing.T) {
	says(t,
		"new begin end", "new 0", "print", "print begin|end|",
		"new in a: bool; out q: bool = true; var v: byte = 7; timer t; counter c; edge e; begin end", "new 6", "get q", "get 1", "get v", "get 7", "get a", "get 0",
		"new in a: bool; out q: bool; begin q := not a; end", "new 2", "step 0", "step 1", "get v", "error 7",
		"new begin end", "new 0", "step 1", "step", "get q", "error 7",
	)
	most := ""
	for i := range api.MaxDecls {
		most += "in a" + strconv.Itoa(i) + ": bool; "
	}
	says(t, "new "+most+"begin end", "new 20", "new "+most+"in b: bool; begin end", "error 4")
}

// wrongs are programs and what is wrong with them.
var wrongs = [][2]string{
	{"", "error 3"}, {"begin", "error 3"}, {"end", "error 3"}, {"begin end end", "error 3"}, {"in a: bool; begin q := ; end", "error 3"}, {"begin $ end", "error 3"}, {"in a: bool; out q: bool;", "error 3"},
	{"in abcdefghij_90: bool; begin end", "error 4"}, {"var k: byte = 256; begin end", "error 4"}, {"out q: bool; begin q := " + strings.Repeat("not ", 9) + "q; end", "error 4"}, {"begin " + strings.Repeat("; ", 800) + "end", "error 4"},
	{"out q: bool; begin " + strings.Repeat("if q then ", 9) + strings.Repeat("end; ", 9) + "end", "error 4"},
	{"in a: bool; out a: bool; begin end", "error 9"}, {"begin q := true; end", "error 7"}, {"out q: bool; begin q := a; end", "error 7"}, {"out q: bool; begin q := 1; end", "error 1"}, {"timer t; begin t := true; end", "error 1"},
	{"out q: bool; edge e; begin q := e.et; end", "error 5"}, {"in a: bool; begin a := true; end", "error 6"}, {"edge e; begin e(true, false); end", "error 2"}, {"edge e; begin e(true, 1); end", "error 2"},
	{"in a: bool; in a: bool; begin a := b + $; end", "error 3"}, {"in a: bool; in a: bool; begin a := 300; end", "error 4"}, {"in a: bool; in a: bool; begin a := b; end", "error 9"},
}

// Promise 12.1: new tells Parse's errors, then New's; nothing is changed then.
func TestNewWrong(t *testing.T) {
	for _, w := range wrongs {
		says(t, "new "+w[0], w[1], "print", "print begin|end|")
		says(t, "new "+count, "new 2", "build", "build", "step", "step 1", "save", "save", "step", "step 2",
			"new "+w[0], w[1], "print", "print in a: bool;|out m: byte;|begin|  m := m + 1;|end|", "get m", "get 2", "same 1", "same true", "load", "load", "same 1", "same false", "step", "step 5")
	}
}

// Promise 12.1: with new, a plant is at first, there is no device, and nothing is kept.
func TestNewAgain(t *testing.T) {
	says(t, "new "+count, "new 2", "step", "step 1", "step", "step 2", "new "+count, "new 2", "get m", "get 0", "step", "step 1",
		"build", "build", "save", "save", "new "+count, "new 2", "same 1", "error 7", "save", "error 7", "load", "error 7", "get m", "get 0",
		"build", "build", "load", "error 7", "same 1 2", "same true")
	// The device is the new program's, not the one's ahead.
	says(t, "new "+count, "new 2", "build", "build", "new in a: bool; out m: byte; begin m := m - 1; end", "new 2", "build", "build", "same 0 1", "same true", "step", "step 253",
		"rungs in a: bool; out q: bool; begin a (q)", "rungs 1", "build", "build", "same 0 1", "same true", "rungs in a: bool; out q: bool; begin /a (q)", "rungs 1", "build", "build", "same 0 1", "same true", "step", "step 1")
}

// Promise 12.1: rungs takes rungs behind declarations, and tells how many they are.
func TestRungs(t *testing.T) {
	says(t,
		"rungs in a: bool; out q: bool; begin a (q)", "rungs 1", "step 1", "step 1", "step", "step 0", "print", "print in a: bool;|out q: bool;|begin|  q := a;|end|",
		"rungs in a: bool; in b: bool; out q: bool; begin a (S q); b (R q);", "rungs 2", "step 1", "step 1", "step", "step 1", "step 0 1", "step 0", "check", "check 2",
		"print", "print in a: bool;|in b: bool;|out q: bool;|begin|  if a then|    q := true;|  end;|  if b then|    q := false;|  end;|end|",
		"rungs in a: bool; out q: bool; begin a(q);;  ; /a ( / q ) ;", "rungs 2", "step 1", "step 1", "step", "step 0",
		"rungs out q: bool; begin ;", "rungs 0", "print", "print out q: bool;|begin|end|", "step", "step 0",
		"rungs out q: bool; begin (q)", "rungs 1", "step", "step 1", "build", "build", "same 1 2 3", "same true",
		"rungs in xbegin: bool; in beginx: bool; out q: bool; begin xbegin beginx (q)", "rungs 1", "step 1 1", "step 1",
		"rungs\tx", "error 3", "rungs in\ta: bool;\tout q: bool; begin a (q)", "rungs 1",
	)
	most := strings.Repeat("(q);", api.MaxRungs)
	says(t, "rungs out q: bool; begin "+most, "rungs 30", "rungs out q: bool; begin "+most+"(q)", "error 4", "check", "check 30")
}

// Promise 12.1: rungs is ErrForm, if there is no word begin between two blanks; what is ahead of the first, and behind, is read; of Decls, Parse and New the first one's error is told. Nothing is changed then.
func TestRungsWrong(t *testing.T) {
	for _, w := range [][2]string{
		{"", "error 3"}, {"a", "error 3"}, {"begin", "error 3"}, {"begin (q)", "error 3"}, {"out q: bool; begin", "error 3"}, {"out q: bool;begin (q)", "error 3"}, {"out q: bool; begin(q)", "error 3"}, {"out q: bool; Begin (q)", "error 3"},
		{"out q: bool;\tbegin\t(q)", "error 3"}, {"out q: bool; begin\t(q)", "error 3"}, {"out q: bool; (q)", "error 3"}, {"begin begin (q)", "error 3"}, {"out q: bool; begin begin (q)", "error 3"}, {"in begin : bool; out q: bool; begin (q)", "error 3"},
		// what is ahead
		{"out q: bool begin (q)", "error 3"}, {"out q: bool; x begin (q)", "error 3"}, {"q begin ;", "error 3"}, {"out abcdefghij_90: bool; begin ;", "error 4"}, {"out k: byte = 256; begin ;", "error 4"}, {strings.Repeat("timer t; ", 21) + "begin ;", "error 4"},
		// what is behind
		{"out q: bool; begin a", "error 3"}, {"out q: bool; begin q := true; end", "error 3"}, {"out q: bool; begin (q)(q)", "error 3"}, {"out q: bool; begin (q) end", "error 3"}, {"out q: bool; begin (q) ; $", "error 3"}, {"out q: bool; begin (abcdefghij_90)", "error 3"},
		{"out q: bool; begin " + strings.Repeat("[", 9) + strings.Repeat("]", 9) + "(q)", "error 4"}, {"out q: bool; begin " + strings.Repeat("(q);", 31), "error 4"},
		// both together
		{"in a: bool; out a: bool; begin ;", "error 9"}, {"in a: bool; begin (q)", "error 7"}, {"out q: bool; begin a (q)", "error 7"}, {"in a: bool; begin (a)", "error 6"}, {"in a: byte; out q: bool; begin a (q)", "error 1"}, {"timer t; begin (t)", "error 1"}, {"in t: bool; out k: byte; begin t (k)", "error 1"},
		// which is told first
		{"out k: byte = 256; begin $", "error 4"}, {"out k: byte = ; begin " + strings.Repeat("[", 9), "error 3"}, {"in a: bool; out a: bool; begin $", "error 3"}, {"in a: bool; out a: bool; begin " + strings.Repeat("(q);", 31), "error 4"}, {"in a: bool; out a: bool; begin (zz)", "error 9"},
	} {
		says(t, "rungs "+w[0], w[1], "print", "print begin|end|")
		says(t, "new "+count, "new 2", "build", "build", "step", "step 1", "save", "save", "step", "step 2",
			"rungs "+w[0], w[1], "print", "print in a: bool;|out m: byte;|begin|  m := m + 1;|end|", "get m", "get 2", "same 1", "same true", "load", "load", "same 1", "same false")
	}
}

// Promise 12.1: with rungs, a plant is at first, there is no device, and nothing is kept.
func TestRungsAgain(t *testing.T) {
	const latch = "rungs in a: bool; out q: bool; begin a (S q)"
	says(t, latch, "rungs 1", "step 1", "step 1", "step", "step 1", latch, "rungs 1", "get q", "get 0", "step", "step 0",
		"build", "build", "save", "save", "step 1", "step 1", latch, "rungs 1", "same 1", "error 7", "save", "error 7", "load", "error 7", "get q", "get 0",
		"build", "build", "load", "error 7", "same 0 1 0", "same true")
}

// Promise 12.1: draw tells rungs as they are written, and changes nothing.
func TestDraw(t *testing.T) {
	says(t,
		"draw", "draw ", "draw ;", "draw ", "draw ; ;;", "draw ", "draw (q)", "draw (q);", "draw ;;(q);;", "draw (q);", "draw ( / q )", "draw (/q);",
		"draw a [/b|c d] (S q)", "draw a [/b | c d] (S q);", "draw a(q);b(R x)", "draw a (q);b (R x);", "draw a (q) ; ; b ( R x ) ;", "draw a (q);b (R x);", "draw [](q)", "draw [] (q);", "draw [|a|](q)", "draw [ | a | ] (q);",
		"draw "+strings.Repeat("(q);", 30), "draw "+strings.Repeat("(q);", 30),
		"draw a", "error 3", "draw (q", "error 3", "draw (Sq)", "error 3", "draw A (q)", "error 3", "draw begin (q)", "error 3", "draw a (q) b", "error 3", "draw q := a;", "error 3",
		"draw "+strings.Repeat("(q);", 31), "error 4", "draw "+strings.Repeat("[", 9), "error 4", "draw $;"+strings.Repeat("[", 9), "error 3", "draw "+strings.Repeat("[", 9)+";$", "error 4",
	)
	says(t, "new "+count, "new 2", "build", "build", "step", "step 1", "save", "save", "draw a (q)", "draw a (q);", "draw a", "error 3", "print", "print in a: bool;|out m: byte;|begin|  m := m + 1;|end|", "get m", "get 1", "load", "load", "same 1", "same true")
}

// Promise 12.1: check tells how many statements the program has, but those in others.
func TestCheck(t *testing.T) {
	says(t, "check", "check 0", "new begin end", "new 0", "check", "check 0", "new "+count, "new 2", "check", "check 1",
		"new out q: bool; begin q := true; if q then q := false; q := true; else q := q; end; q := q; end", "new 1", "check", "check 3",
		"new out q: bool; begin if q then elsif not q then q := q; elsif q then end; end", "new 1", "check", "check 1",
		"new edge e; begin e(true); e(false); e(true); e(false); end", "new 1", "check", "check 4", "new x", "error 3", "check", "check 4",
		"rungs out q: bool; begin (S q); (R q)", "rungs 2", "check", "check 2")
}

// Promise 12.1: print tells the program, each line feed as a bar; without the bars it is read as it was.
func TestPrint(t *testing.T) {
	const printed = "in a: bool;|out q: bool = true;|var k: byte = 7;|timer t;|begin|  t(a, 3);|  if t.q then|    q := k < 3 and (a or q);|  else|    if a then|      k := k + 1;|    end;|  end;|end|"
	says(t, "new in a:bool;out q:bool=true;var k:byte=7;timer t;begin t(a,3);if t.q then q:=k<3 and(a or q);elsif a then k:=k+1;end;end", "new 4", "print", "print "+printed,
		"step 1", "step 1", "print", "print "+printed, "new "+strings.ReplaceAll(printed, "|", " "), "new 4", "print", "print "+printed, "build", "build", "print", "print "+printed)
	if got := desk.Session("print"); got != "print begin|end|\n" {
		t.Errorf("%q", got)
	}
}

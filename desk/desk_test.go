package desk_test

import (
	"strings"
	"testing"

	"rungwork/api"
	"rungwork/desk"
)

// help is what help tells.
const help = "build check draw get help load new print rungs same save step"

// says asks a session for its answers: texts by twos, a line and what it is answered.
func says(t *testing.T, l ...string) {
	t.Helper()
	text := ""
	for i := 0; i < len(l); i += 2 {
		text += l[i] + "\n"
	}
	got := strings.Split(desk.Session(text), "\n")
	if len(got) != len(l)/2+1 || got[len(got)-1] != "" {
		t.Fatalf("%.900q: %d lines: %.900q", text, len(got), got)
	}
	for i, s := range got[:len(l)/2] {
		if s != l[2*i+1] {
			t.Errorf("line %d, %.300q: %.300q, want %.300q, of %.300q", i, l[2*i], s, l[2*i+1], text)
		}
	}
}

// answers asks for a whole text's.
func answers(t *testing.T, text, want string) {
	t.Helper()
	if got := desk.Session(text); got != want {
		t.Errorf("%.300q: %.300q, want %.300q", text, got, want)
	}
}

// Promise 12.1: lines are cut at line feeds; one at the text's end is left out; the empty text is one line.
func TestLines(t *testing.T) {
	for text, want := range map[string]string{
		"":                  "ok\n",
		"\n":                "ok\n",
		"\n\n":              "ok\nok\n",
		"\n\n\n":            "ok\nok\nok\n",
		" ":                 "ok\n",
		"   \n":             "ok\n",
		"help":              help + "\n",
		"help\n":            help + "\n",
		"help\n\n":          help + "\nok\n",
		"\nhelp":            "ok\n" + help + "\n",
		"check\nhelp":       "check 0\n" + help + "\n",
		"check\n  \ncheck ": "check 0\nok\ncheck 0\n",
		"x\ncheck\n":        "error 3\ncheck 0\n",
		"check\r\ncheck":    "error 3\ncheck 0\n",
		"\r":                "error 3\n",
		"check\vcheck":      "error 3\n",
		"check\u2028check":  "error 3\n",
		"check\x00\n":       "error 3\n",
	} {
		answers(t, text, want)
	}
}

// Promise 12.1: a text of more than MaxText bytes is one error.
func TestMaxText(t *testing.T) {
	const most = api.MaxText
	answers(t, strings.Repeat(" ", most), "ok\n")
	answers(t, strings.Repeat("x", most), "error 3\n")
	answers(t, strings.Repeat("\n", most), strings.Repeat("ok\n", most))
	answers(t, "check\n"+strings.Repeat(" ", most-6), "check 0\nok\n")
	answers(t, strings.Repeat("é", most/2), "error 3\n")
	for _, text := range []string{strings.Repeat(" ", most+1), strings.Repeat("x", most+1), strings.Repeat("\n", most+1), "check\n" + strings.Repeat("\n", most), strings.Repeat(" ", most) + "\n", strings.Repeat("é", most/2) + "\n", strings.Repeat("é", most/2+1), strings.Repeat("check\n", 1_000_000)} {
		answers(t, text, "error 4\n")
	}
}

// Promise 12.1: blanks stand between words, several, too, and at both ends; nothing else does.
func TestWords(t *testing.T) {
	says(t,
		"  check", "check 0", "check   ", "check 0", "   check ", "check 0",
		"  new   in  a  :bool;out q :  bool ;  begin    q := a ;  end  ", "new 2", "  step   1  ", "step 1", "step  0   1 7 ", "step 0", " get    q ", "get 0",
		"\tcheck", "error 3", "check\t", "error 3", "step\t1", "error 3", "step 1\t", "error 3", "get\tq", "error 3", "\t", "error 3", "\v", "error 3",
		"check\u00a0", "error 3", "\u00a0check", "error 3", "\u3000", "error 3", "step\u20031", "error 3", "\xff", "error 3", "check \xff", "error 3", "\xffcheck", "error 3", "get \xff", "error 7",
	)
	says(t, "new in\ta:\tbool;\tbegin\tend", "new 1", "new\tin a: bool; begin end", "error 3", "new in a: bool;\u00a0begin end", "error 3", "new in a: bool; \xffbegin end", "error 3")
	says(t, "draw a  /  b   (S   q)", "draw a /b (S q);", "draw a\t(q)", "error 3", "draw a\u00a0(q)", "error 3", "draw a \xff(q)", "error 3")
}

// Promise 12.1: ErrForm, unless the first word is one of these.
func TestFirstWord(t *testing.T) {
	for _, w := range []string{"x", "Check", "CHECK", "checks", "chec", "check,", "check;", "1", "-1", "ok", "error", "error 3", "begin", "end", "run", "reset", "true", "T", "N", "..", "help?", "news", "ne", "rung", "steps", "saves", "loads", "drawn", "gets", "get,q", "build.", "печать", strings.Repeat("check", 999)} {
		says(t, w, "error 3", w+" 1", "error 3", w+" q", "error 3", w+" check", "error 3", "check", "check 0")
	}
	for w := range strings.FieldsSeq(help) {
		says(t, strings.ToUpper(w), "error 3", w+"_", "error 3", "_ "+w, "error 3", w[1:], "error 3", w[:len(w)-1], "error 3")
	}
}

// Promise 12.1: ErrForm, unless just so many words stand behind the first as are told; then nothing is done.
func TestHowManyWords(t *testing.T) {
	const program = "new in a: bool; out q: bool; out m: byte; begin q := a; m := m + 1; end"
	for _, w := range []string{"check", "print", "build", "save", "load", "help"} {
		for _, more := range []string{" x", " 1", " q", " " + w, " x y", " ."} {
			says(t, w+more, "error 3", program, "new 3", w+more, "error 3", "build", "build", w+more, "error 3", "save", "save", w+more, "error 3", "load", "load")
		}
	}
	says(t, program, "new 3", "get", "error 3", "get q m", "error 3", "get q q", "error 3", "get q .", "error 3", "get t . q", "error 3", "get q", "get 0")
	says(t, program, "new 3", "step 1", "step 1 1", "build x", "error 3", "same", "error 7", "get m", "get 1")
	says(t, program, "new 3", "build", "build", "save x", "error 3", "load", "error 7", "save", "save", "step 1", "step 1 1", "load x", "error 3", "same 1", "same true", "load", "load", "same 1", "same false")
}

// Promise 12.1: a number N is decimal, perhaps with -, without a nought ahead, never -0, of 64 bits.
func TestNumbers(t *testing.T) {
	const program = "new in n: byte; out m: byte; out k: byte; begin m := n; k := k + 1; end"
	for _, n := range []string{"x", "+1", "+0", "01", "00", "000", "-01", "-00", "-0", "--1", "-", "1-", "- 1", "1.0", "1.", ".1", "1e3", "0x1", "0b1", "0o7", "1_0", "_1", "1,", "1;", "1,2", "9223372036854775808", "-9223372036854775809", "18446744073709551615", "99999999999999999999999", strings.Repeat("9", 900), "１", "٣", "true", "n", "1\t", "\t1", "1\r", "1\x00", "\"1\"", "1\xff"} {
		for _, line := range []string{n, n + " 1", "1 " + n, "1 2 3 " + n + " 4"} {
			says(t, program, "new 3", "step "+line, "error 3", "same "+line, "error 3", "build", "build", "step "+line, "error 3", "same "+line, "error 3", "step", "step 0 1", "same 0", "same true", "get k", "get 2")
		}
	}
	says(t, program, "new 3",
		"step 0", "step 0 1", "step 7", "step 7 2", "step 10", "step 10 3", "step 255", "step 255 4", "step 256", "step 0 5", "step 1000", "step 232 6",
		"step -1", "step 255 7", "step -10", "step 246 8", "step -256", "step 0 9", "step 100000000007", "step 7 10",
		"step 9223372036854775807", "step 255 11", "step -9223372036854775808", "step 0 12", "step 9223372036854775806", "step 254 13", "step -9223372036854775807", "step 1 14",
		"build", "build", "same 0 -1 1 9223372036854775807 -9223372036854775808 -9223372036854775807", "same true")
}

// Promise 12.1: ErrForm is told ahead of what a line finds.
func TestFormFirst(t *testing.T) {
	says(t, "same x", "error 3", "same 1 x", "error 3", "same", "error 7", "save x", "error 3", "load x", "error 3", "get zz zz", "error 3", "get", "error 3",
		"build", "build", "load x", "error 3", "load", "error 7")
}

// Promise 12.1: help tells the words.
func TestHelp(t *testing.T) {
	says(t, "help", help, "help help", "error 3", "new begin end", "new 0", "build", "build", "help", help)
}

// Promise 12.1: there is an empty program at first, and a plant of it; no device; nothing is kept.
func TestFirst(t *testing.T) {
	for line, want := range map[string]string{
		"check": "check 0", "print": "print begin|end|", "step": "step", "step 1 -2": "step", "get q": "error 7", "get .": "error 7",
		"same": "error 7", "same 1": "error 7", "save": "error 7", "load": "error 7", "build": "build", "new": "error 3", "rungs": "error 3", "draw": "draw ",
	} {
		says(t, line, want)
	}
	says(t, "build", "build", "step", "step", "same", "same true", "same 1 -1", "same true", "load", "error 7", "save", "save", "load", "load", "same 5", "same true", "get q", "error 7")
}

// Promise P4: what a session is answered hangs on its text alone, not on sessions ahead.
func TestAlone(t *testing.T) {
	says(t, "new in a: bool; out q: bool; begin q := not a; end", "new 2", "build", "build", "save", "save", "step", "step 1")
	says(t, "load", "error 7", "same", "error 7", "save", "error 7", "get q", "error 7", "print", "print begin|end|", "step", "step")
}

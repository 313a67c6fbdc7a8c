package desk_test

import (
	"slices"
	"strconv"
	"strings"
	"testing"

	"rungwork/api"
	"rungwork/desk"
	"rungwork/ladder"
	"rungwork/scan"
	"rungwork/tree"
)

// die draws numbers, the same each time.
type die uint64

func (d *die) n(most int) int {
	*d = *d*6364136223846793005 + 1442695040888963407
	return int(uint64(*d>>33) % uint64(most))
}

// rules are what a word in capitals may stand for: where it lies deepest, one of the first list, else one of both.
var rules = map[string][2][]string{
	"BIT":  {{"a", "b", "q", "v", "t.q", "c.q", "e.q", "true", "false"}, {"not BIT", "( BIT and BIT )", "( BIT or BIT )", "( BIT xor BIT )", "( BIT = BIT )", "( BYTE < BYTE )", "( BYTE >= BYTE )", "( BYTE <> BYTE )"}},
	"BYTE": {{"n", "n", "m", "k", "t.et", "c.cv", "1", "0", "255", "77"}, {"( BYTE + BYTE )", "( BYTE - BYTE )", "not BYTE", "( BYTE xor BYTE )", "( BYTE and BYTE )"}},
	"STMT": {{"q := BIT ;", "v := BIT ;", "m := BYTE ;", "k := BYTE ;", "q := q xor BIT ;", "m := m + BYTE ;", "m := k + n ;", "k := k - BYTE ;", "t ( BIT , 3 ) ;", "c ( BIT , BIT , 2 ) ;", "e ( BIT ) ;"},
		{"if BIT then STMT STMT end ;", "if BIT then STMT else STMT end ;", "if BIT then STMT elsif BIT then else STMT end ;", "STMT STMT", "STMT STMT STMT"}},
	"PROGRAM": {{"in a : bool ; in b : bool ; in n : byte ; out q : bool ; out m : byte = 200 ; var v : bool = true ; var k : byte = 3 ; timer t ; counter c ; edge e ; begin STMT STMT STMT STMT end"}},
	"CELLS":   {{"", "a", "b", "/a", "/n", "q", "/m", "v"}, {"CELLS CELLS", "CELLS CELLS", "[ CELLS | CELLS ]", "[ CELLS | CELLS | CELLS ]", "[ CELLS ]"}},
	"RUNG":    {{"CELLS ( q ) ;", "CELLS ( /q ) ;", "CELLS ( S m ) ;", "CELLS ( R m ) ;", "CELLS ( v ) ;"}, {"RUNG RUNG", "RUNG RUNG"}},
	"RUNGS":   {{"in a : bool ; out q : bool ; in b : bool ; var v : bool = true ; in n : bool ; out m : bool = true ; begin RUNG RUNG"}},
	"NUMBER":  {{"0", "1", "2", "7", "-1", "255", "256", "-300", "9223372036854775807"}},
	"NUMBERS": {{"", "NUMBER", "NUMBER NUMBER", "NUMBER NUMBER NUMBER"}},
	"LINE": {{"new PROGRAM", "rungs RUNGS", "new PROGRAM $", "rungs RUNGS $", "new RUNGS", "rungs PROGRAM", "draw RUNG", "draw RUNG )", "", "x", "same x", "get zz", "check 1"},
		{"check", "print", "help", "build", "build", "step NUMBERS", "step NUMBERS", "same NUMBERS", "same NUMBERS", "get q", "get m", "get t.et", "save", "load", "load"}},
}

// draw draws what stands for each word that stands for others.
func (d *die) draw(text string, deep int) string {
	var l []string
	for _, w := range strings.Split(text, " ") {
		if r, ok := rules[w]; ok {
			these := r[0]
			if deep > 0 {
				these = slices.Concat(r[0], r[1])
			}
			w = d.draw(these[d.n(len(these))], deep-1)
		}
		l = append(l, w)
	}
	return strings.Join(l, " ")
}

// given draws numbers.
func (d *die) given() []int {
	var l []int
	for range d.n(5) {
		l = append(l, d.n(1000)-400)
	}
	return l
}

// said are a word and numbers, as a line has them.
func said(word string, l []int) string {
	for _, n := range l {
		word += " " + strconv.Itoa(n)
	}
	return word
}

// Promise 36 (12.1): the answers to the first lines of a session are the beginning of the answers to all, a line each.
func TestBeginning(t *testing.T) {
	d := die(120)
	for range 60 {
		var lines []string
		for range 25 {
			lines = append(lines, d.draw("LINE", 4))
		}
		all := desk.Session(strings.Join(lines, "\n") + "\n")
		if strings.HasPrefix(all, "error 4") {
			t.Fatalf("%d bytes", len(strings.Join(lines, "\n")))
		}
		for k := 1; k <= len(lines); k++ {
			got := desk.Session(strings.Join(lines[:k], "\n") + "\n")
			if !strings.HasPrefix(all, got) || strings.Count(got, "\n") != k || !strings.HasSuffix(got, "\n") {
				t.Fatalf("%d of %.900q: %.600q, which is no beginning of %.900q", k, lines, got, all)
			}
			if open := desk.Session(strings.Join(lines[:k], "\n")); lines[k-1] != "" && open != got {
				t.Fatalf("without a line feed behind: %.600q, not %.600q", open, got)
			}
		}
	}
}

// drawn draws a line that takes a program, and what it takes, if nothing is found in it.
func (d *die) drawn() (line string, p api.Program, ok bool) {
	if d.n(3) > 0 {
		text := d.draw("PROGRAM", 4)
		p, err := tree.Parse(text)
		return "new " + text, p, err == nil
	}
	text := d.draw("RUNGS", 4)
	ahead, behind, _ := strings.Cut(text, " begin ")
	decls, err := tree.Decls(ahead)
	l, wrong := ladder.Parse(strings.ReplaceAll(behind, ";", "\n"))
	return "rungs " + text, api.Program{Decls: decls, Body: ladder.Body(l)}, err == nil && wrong == nil
}

// plant is one of a drawn program.
func plant(t *testing.T, line string, p api.Program) *scan.Plant {
	t.Helper()
	x, err := scan.New(p)
	if err != nil {
		t.Fatalf("%.900q: error %d", line, api.Tell(err))
	}
	return x
}

// cycles are what a drawn program is told, and answered, when it is built and goes on for some cycles.
func (d *die) cycles(x *scan.Plant) []string {
	l := []string{"build", "build"}
	for range 12 {
		given := d.given()
		l = append(l, said("step", given), said("step", x.Step(given)))
		given = d.given()
		for _, n := range given {
			x.Step([]int{n, n + 1, n + 2})
		}
		l = append(l, said("same", given), "same true")
		for _, name := range []string{"q", "m", "v"} {
			n, _ := x.Get(name, "")
			l = append(l, "get "+name, "get "+strconv.Itoa(n))
		}
	}
	return l
}

// Promise 38 (12.1): whatever program a session is told, its device and its plant let out the same; and that is what is meant. Each session is told several.
func TestDrawnSame(t *testing.T) {
	d, done := die(121), 0
	for range 100 {
		var l []string
		for range 3 {
			line, p, ok := d.drawn()
			if !ok {
				continue
			}
			first := "new 10"
			if strings.HasPrefix(line, "rungs") {
				first = "rungs " + strconv.Itoa(len(p.Body))
			}
			l = append(append(l, line, first), d.cycles(plant(t, line, p))...)
			done++
		}
		says(t, l...)
	}
	if done < 250 {
		t.Errorf("only %d programs", done)
	}
}

// Promise 12.1: a device that holds again what it held goes on as a plant does that did no more until then, whatever the session's own did.
func TestDrawnLoad(t *testing.T) {
	d, told := die(122), map[bool]int{}
	for range 250 {
		line, p, ok := d.drawn()
		if !ok {
			continue
		}
		x, was := plant(t, line, p), plant(t, line, p)
		text := []string{line, "build"}
		for i := range 8 {
			given := d.given()
			text = append(text, said("step", given))
			x.Step(given)
			if i < 4 {
				was.Step(given)
			}
			if i == 3 {
				text = append(text, "save")
			}
		}
		numbers := d.given()
		text = append(text, "load", said("same", numbers))
		same := true
		for _, n := range numbers {
			given := []int{n, n + 1, n + 2}
			same = same && slices.Equal(x.Step(given), was.Step(given))
		}
		want := "same " + strconv.FormatBool(same) + "\n"
		if got := desk.Session(strings.Join(text, "\n")); !strings.HasSuffix(got, "load\n"+want) {
			t.Errorf("%.900q: %.900q, want %q at its end", text, got, want)
		}
		told[same]++
	}
	if told[true] < 30 || told[false] < 30 {
		t.Errorf("%v", told)
	}
}

// Promise P1: every session ends, whatever text it is, and none panics; each line is answered by one.
func TestAnyText(t *testing.T) {
	const odd = " \n;:()[]|.-$0a\t\xff"
	d := die(123)
	for range 300 {
		var lines []string
		for range 12 {
			b := []byte(d.draw("LINE", 4))
			for range d.n(3) {
				if len(b) > 0 {
					b[d.n(len(b))] = odd[d.n(len(odd))]
				}
			}
			lines = append(lines, string(b))
		}
		text := strings.Join(lines, "\n") + "."
		if got := desk.Session(text); strings.Count(got, "\n") != strings.Count(text, "\n")+1 {
			t.Errorf("%.900q: %.900q", text, got)
		}
	}
}

// Promise 12.1: a program of nearly as many tokens as may be is built as often as a text asks, and begins again each time.
func TestBuiltOften(t *testing.T) {
	says(t, slices.Concat([]string{"new in n:byte;out m:byte;begin m:=n" + strings.Repeat("+n-m", 190) + ";end", "new 2"},
		slices.Repeat([]string{"build", "build", "get m", "get 0", "load", "error 7", "same 0 1 2 3", "same true", "step 1", "step 105", "save", "save"}, 100))...)
}

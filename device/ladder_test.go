package device_test

import (
	"slices"
	"strings"
	"testing"

	"rungwork/api"
	"rungwork/device"
	"rungwork/ladder"
	"rungwork/tree"
)

// rungsOf are rungs of a text that must be right.
func rungsOf(t *testing.T, text string) []ladder.Rung {
	t.Helper()
	l, err := ladder.Parse(text)
	if err != nil {
		t.Fatalf("%.300q: error %d", text, api.Tell(err))
	}
	return l
}

// wired is the device of rungs, behind declarations.
func wired(t *testing.T, decls string, l []ladder.Rung) *device.Device {
	t.Helper()
	d, err := tree.Decls(decls)
	if err != nil {
		t.Fatalf("%.300q: error %d", decls, api.Tell(err))
	}
	return deviceOf(t, api.Program{Decls: d, Body: ladder.Body(l)})
}

// Promise 11.1 (4.2): a ladder's device lets out what its coils are.
func TestCoils(t *testing.T) {
	decls := "in a: bool; in b: bool; in c: bool; out q: bool; "
	for _, c := range []struct{ rungs, want string }{ // of a, b and c as bits, a the least: from 0 to 7
		{"a (q)", "01010101"}, {"/a (q)", "10101010"}, {"a (/q)", "10101010"}, {"/a (/q)", "01010101"},
		{"a b (q)", "00010001"}, {"a b c (q)", "00000001"}, {"a /b (q)", "01000100"}, {"[a | b] (q)", "01110111"}, {"[a | b] (/q)", "10001000"},
		{"[a /b | /a b] c (q)", "00000110"}, {"[a | b | c] (q)", "01111111"}, {"[a [b | /c] | /a c] (q)", "01011011"},
		{"(q)", "11111111"}, {"(/q)", "00000000"}, {"[a | ] (q)", "11111111"}, {"[] (q)", "11111111"},
		{"a (q)\nb (q)", "00110011"}, {"a (q)\nq b (q)", "00010001"}, {"(R q)\na (S q)", "01010101"}, {"a (S q)\nb (R q)", "01000100"}, {"a (R q)\n/a (S q)", "10101010"},
	} {
		d := wired(t, decls, rungsOf(t, c.rungs))
		for k := range 8 {
			if strings.Contains(c.rungs, "S") {
				d = wired(t, decls, rungsOf(t, c.rungs)) // what it was stays, else
			}
			want := int(c.want[k] - '0')
			if got := d.Step(row{k, k >> 1, k >> 2}); !slices.Equal(got, row{want}) {
				t.Errorf("%q, of %03b: %v, want %d", c.rungs, k, got, want)
			}
		}
	}
}

// Promise 11.1 (4.2): coils that latch stay, from cycle to cycle; rungs are done one behind the other.
func TestLatches(t *testing.T) {
	steps(t, "latch", wired(t, "in a: bool; in b: bool; out q: bool; ", rungsOf(t, "a (S q)\nb (R q)")),
		nil, row{0}, row{1}, row{1}, nil, row{1}, row{0, 1}, row{0}, nil, row{0}, row{1, 1}, row{0}, row{1}, row{1}, row{0, 0}, row{1})
	steps(t, "latched at first", wired(t, "in b: bool; out q: bool = true; ", rungsOf(t, "b (R q)")), nil, row{1}, row{1}, row{0}, nil, row{0})
	steps(t, "held", wired(t, "in a: bool; in b: bool; out q: bool; ", rungsOf(t, "[a | q] /b (q)")), nil, row{0}, row{1}, row{1}, nil, row{1}, row{0, 1}, row{0}, nil, row{0})
	steps(t, "behind one another", wired(t, "in a: bool; var v: bool; out q: bool; out r: bool; ", rungsOf(t, "v (r)\na (v)\nv (q)")), row{1}, row{1, 0}, row{0}, row{0, 1}, row{0}, row{0, 0})
}

// cells draws cells, so deep.
func (d *die) cells(deep int) string {
	var l []string
	for range d.n(4) {
		if deep == 0 || d.n(3) > 0 {
			l = append(l, d.of("", "/")+d.of("a", "b", "c", "q", "r", "v"))
			continue
		}
		var w []string
		for range 1 + d.n(3) {
			w = append(w, d.cells(deep-1))
		}
		l = append(l, "["+strings.Join(w, "|")+"]")
	}
	return strings.Join(l, " ")
}

// power says whether power comes through cells, while these names hold.
func power(l []ladder.Cell, holds map[string]bool) bool {
	for _, c := range l {
		through := holds[c.Name] != c.Not
		if len(c.Ways) > 0 {
			through = slices.ContainsFunc(c.Ways, func(w []ladder.Cell) bool { return power(w, holds) })
		}
		if !through {
			return false
		}
	}
	return true
}

// feed lets power into rungs, one behind the other, and changes what holds.
func feed(l []ladder.Rung, holds map[string]bool) {
	for _, r := range l {
		on, was := power(r.Cells, holds), holds[r.Name]
		holds[r.Name] = map[int]bool{ladder.Plain: on, ladder.Turned: !on, ladder.Latch: was || on, ladder.Unlatch: was && !on}[r.Kind]
	}
}

// Promise 11.1 (4.2): drawn ladders' devices let out what their coils are, by the way that power takes, cycle by cycle.
func TestDrawnLadders(t *testing.T) {
	d := die(112)
	one := map[bool]int{true: 1}
	for range 400 {
		var lines []string
		for range 1 + d.n(8) {
			lines = append(lines, d.cells(3)+"("+d.of("", "", "/", "S ", "R ")+d.of("q", "r", "v")+")")
		}
		rungs := rungsOf(t, strings.Join(lines, "\n"))
		holds := map[string]bool{"q": d.n(2) == 1, "r": d.n(2) == 1}
		first := map[bool]string{true: "true", false: "false"}
		x := wired(t, "in a: bool; out q: bool = "+first[holds["q"]]+"; in b: bool; var v: bool; out r: bool = "+first[holds["r"]]+"; in c: bool;", rungs)
		for range 20 {
			k := d.n(8)
			holds["a"], holds["b"], holds["c"] = k&1 > 0, k&2 > 0, k&4 > 0
			feed(rungs, holds)
			if got, want := x.Step(row{k, k >> 1, k >> 2}), (row{one[holds["q"]], one[holds["r"]]}); !slices.Equal(got, want) {
				t.Fatalf("%q, of %03b: %v, want %v", lines, k, got, want)
			}
		}
	}
}

package device_test

import (
	"slices"
	"sort"
	"strconv"
	"testing"

	"rungwork/api"
	"rungwork/device"
	"rungwork/scan"
	"rungwork/tree"
)

// both is a program's plant, and its device, which are asked side by side.
type both struct {
	text   string
	plant  *scan.Plant
	device *device.Device
}

// made makes both of a program.
func made(t *testing.T, p api.Program) *both {
	t.Helper()
	x, err := scan.New(p)
	if err != nil {
		t.Fatalf("%.300q: no plant", tree.Print(p))
	}
	return &both{text: tree.Print(p), plant: x, device: deviceOf(t, p)}
}

// step asks for one cycle of both; they must let out the same, which is told.
func (x *both) step(t *testing.T, l row) row {
	t.Helper()
	want := x.plant.Step(l)
	got := x.device.Step(l)
	if !slices.Equal(got, want) {
		t.Fatalf("of %v: %v, want %v: %.900s", l, got, want, x.text)
	}
	return got
}

// cycles asks a program's device, and its plant, for what they let out, cycle by cycle: rows by twos, what is given and what comes out.
func cycles(t *testing.T, text string, l ...row) {
	t.Helper()
	x := made(t, parse(t, text))
	for i := 0; i+1 < len(l); i += 2 {
		if got := x.step(t, l[i]); !slices.Equal(got, l[i+1]) {
			t.Errorf("%s: cycle %d, of %v: %v, want %v", text, i/2, l[i], got, l[i+1])
		}
	}
}

// Promise 11.1 (5.1): programs, in a device, do what is meant: what is kept, what is set, one behind the other.
func TestPrograms(t *testing.T) {
	cycles(t, "begin end", nil, nil, row{1}, nil)
	cycles(t, "in n: byte; out m: byte = 250; begin m := m + n; end", row{10}, row{4}, row{255}, row{3}, nil, row{3}, row{-4, 9}, row{255}, row{257}, row{0})
	cycles(t, "out m: byte = 5; in a: bool; var k: byte; in n: byte; out q: bool; timer t; in b: bool; out r: bool; begin m := n; q := a; r := b; end",
		row{1, 200, 0}, row{200, 1, 0}, row{0, 7, 1}, row{7, 0, 1}, row{3}, row{0, 1, 0}, row{0, -1, -1, 1}, row{255, 0, 1})
	cycles(t, "out m: byte = 200; out q: bool = true; out r: bool; begin end", nil, row{200, 1, 0}, row{1, 1}, row{200, 1, 0})
	cycles(t, "var v: bool = true; out q: bool; begin q := v; v := not v; end", nil, row{1}, nil, row{0}, nil, row{1})
	cycles(t, "in n: byte; out m: byte; var k: byte = 9; begin m := k; k := n; end", row{5}, row{9}, row{6}, row{5}, nil, row{6}, nil, row{0})
	cycles(t, "in a: bool; in b: bool; out m: byte; begin if a then m := 1; elsif b then m := m + 2; else m := m - 1; end; end",
		row{0, 0}, row{255}, row{0, 1}, row{1}, row{1, 0}, row{1}, row{1, 1}, row{1}, row{2, 3}, row{3})
	cycles(t, "in a: bool; timer t; out q: bool; out m: byte; begin t(a, 3); q := t.q; m := t.et; end",
		row{1}, row{0, 1}, row{1}, row{0, 2}, row{1}, row{1, 3}, row{1}, row{1, 3}, row{0}, row{0, 0}, row{1}, row{0, 1})
	cycles(t, "in a: bool; in b: bool; counter c; out q: bool; out m: byte; begin c(a, b, 2); q := c.q; m := c.cv; end",
		row{1}, row{0, 1}, row{1}, row{0, 1}, row{0}, row{0, 1}, row{1}, row{1, 2}, row{0}, row{1, 2}, row{1}, row{1, 3}, row{0, 1}, row{0, 0}, row{1, 1}, row{0, 0}, row{1}, row{0, 0})
	cycles(t, "in a: bool; edge e; out q: bool; begin e(a); q := e.q; end", row{1}, row{1}, row{1}, row{0}, row{0}, row{0}, row{1}, row{1}, nil, row{0})
}

// Promise 11.1 (1.1): each mark of two bytes, of all pairs of them.
func TestProgramMarks(t *testing.T) {
	x := made(t, parse(t, "in a: byte; in b: byte; out c: byte; out d: byte; out e: byte; out f: byte; out g: byte; out h: bool; out i: bool; out j: bool; out k: bool; out l: bool; out m: bool; "+
		"begin c := a + b; d := a - b; e := a and b; f := a or b; g := a xor b; h := a = b; i := a <> b; j := a < b; k := a <= b; l := a > b; m := a >= b; end"))
	one := map[bool]int{true: 1}
	for a := range 256 {
		for b := range 256 {
			want := row{(a + b) % 256, (a - b + 256) % 256, a & b, a | b, a ^ b, one[a == b], one[a != b], one[a < b], one[a <= b], one[a > b], one[a >= b]}
			if got := x.step(t, row{a, b}); !slices.Equal(got, want) {
				t.Fatalf("%d, %d: %v, want %v", a, b, got, want)
			}
		}
	}
}

// Promise 11.1 (5.2): blocks count as far as they may, in a device, too.
func TestProgramBlocks(t *testing.T) {
	for _, text := range []string{
		"in a: bool; in b: bool; out q: bool; out m: byte; counter c; begin c(a, b, 255); q := c.q; m := c.cv; end",
		"in a: bool; in b: bool; out q: bool; out m: byte; timer t; begin t(a or not b, 255); q := t.q; m := t.et; end",
	} {
		x := made(t, parse(t, text))
		most := 0
		for cycle := range 700 {
			most = max(most, x.step(t, row{1 - cycle%2, cycle / 650})[1])
		}
		if most != 255 {
			t.Errorf("%s: it counted to %d", text, most)
		}
	}
}

// Promise 11.1 (7.1): the greatest program of its kind that is not too much does what is meant.
func TestProgramGreat(t *testing.T) {
	p := parse(t, "in n: byte; in a: bool; var k: byte; timer t; out m: byte = 3; begin t(a, 9); k := k + m; if a then m := m + n; else m := k xor m; end; end")
	many := func(k int) api.Program { return api.Program{Decls: p.Decls, Body: slices.Repeat(p.Body, k)} }
	most := sort.Search(1000, func(k int) bool {
		_, err := device.Build(many(k + 1))
		return err != nil
	})
	unbuilt(t, many(most+1), api.ErrLimit, -1)
	if most < 50 {
		t.Errorf("%d times is the most", most)
	}
	x := made(t, many(most))
	for i := range 30 {
		x.step(t, row{i * 77, i / 3})
	}
}

// die draws numbers, the same each time.
type die uint64

func (d *die) n(most int) int {
	*d = *d*6364136223846793005 + 1442695040888963407
	return int(uint64(*d>>33) % uint64(most))
}

// of draws one of several.
func (d *die) of(l ...string) string { return l[d.n(len(l))] }

// bit draws an expression of a bit.
func (d *die) bit(deep int) string {
	if deep == 0 || d.n(4) == 0 {
		return d.of("a", "a", "b", "q", "v", "t.q", "c.q", "e.q", "true", "not a")
	}
	switch d.n(4) {
	case 0:
		return "(" + d.byte(deep-1) + d.of(" < ", " <= ", " > ", " >= ", " = ", " <> ") + d.byte(deep-1) + ")"
	case 1:
		return "not " + d.bit(deep-1)
	}
	return "(" + d.bit(deep-1) + d.of(" and ", " or ", " xor ", " = ", " <> ") + d.bit(deep-1) + ")"
}

// byte draws an expression of a byte.
func (d *die) byte(deep int) string {
	if deep == 0 || d.n(4) == 0 {
		return d.of("n", "n", "m", "k", "t.et", "c.cv", "1", "255", strconv.Itoa(d.n(256)))
	}
	return "(" + d.byte(deep-1) + d.of(" + ", " - ", " and ", " or ", " xor ") + d.byte(deep-1) + ")"
}

// stmts draws statements, at most so many.
func (d *die) stmts(most, deep int) string {
	text := ""
	for range d.n(most + 1) {
		text += d.stmt(deep)
	}
	return text
}

// stmt draws a statement.
func (d *die) stmt(deep int) string {
	switch kind := d.n(10); {
	case kind < 2:
		return d.of("q", "v") + " := " + d.bit(2) + "; "
	case kind < 4:
		return d.of("m", "k") + " := " + d.byte(2) + "; "
	case kind == 4:
		return "t(" + d.bit(1) + ", " + strconv.Itoa(d.n(6)) + "); "
	case kind == 5:
		return "c(" + d.bit(1) + ", " + d.bit(1) + ", " + strconv.Itoa(d.n(6)) + "); "
	case kind == 6 || deep == 0:
		return "e(" + d.bit(1) + "); "
	}
	return "if " + d.bit(2) + " then " + d.stmts(3, deep-1) + "else " + d.stmts(3, deep-1) + "end; "
}

// decls draws declarations of just these names, in an order.
func (d *die) decls() string {
	l := []string{
		"in a: bool; ", "in b: bool; ", "in n: byte; ", "out q: bool = " + d.of("true", "false") + "; ", "out m: byte = " + strconv.Itoa(d.n(256)) + "; ",
		"var v: bool = " + d.of("true", "false") + "; ", "var k: byte = " + strconv.Itoa(d.n(256)) + "; ", "timer t; ", "counter c; ", "edge e; ",
	}
	text := ""
	for len(l) > 0 {
		i := d.n(len(l))
		text += l[i]
		l = slices.Delete(l, i, i+1)
	}
	return text
}

// program draws a program of which nothing is found, if its text is not too long.
func (d *die) program() (p api.Program, ok bool) {
	p, err := tree.Parse(d.decls() + "begin " + d.stmts(6, 3) + d.of("", "q := q xor v xor t.q xor c.q xor e.q; m := m + k - t.et - c.cv; ") + "end")
	return p, err == nil
}

// given draws what is given: too few and too many numbers, below 0 and above what there is room for.
func (d *die) given() row { return row{d.n(600) - 300, d.n(5) - 2, d.n(1000) - 500, d.n(4)}[:d.n(5)] }

// Promise 11.1: drawn programs' devices let out, cycle by cycle, what the programs let out, whatever is given.
func TestDrawnPrograms(t *testing.T) {
	d, done := die(110), 0
	for range 400 {
		p, ok := d.program()
		if !ok {
			continue
		}
		x := made(t, p)
		for range 25 {
			x.step(t, d.given())
		}
		done++
	}
	if done < 300 {
		t.Errorf("only %d programs", done)
	}
}

// Promise 11.1: drawn programs' devices that hold again what they held go on as they went on then; so does another one of the same image.
func TestDrawnGoesOn(t *testing.T) {
	d, many := die(111), 0
	for range 200 {
		p, ok := d.program()
		if !ok {
			continue
		}
		image := built(t, p)
		in, out := types(p, api.In), types(p, api.Out)
		one, other := put(t, image, in, out), put(t, image, in, out)
		for range d.n(9) {
			one.Step(d.given())
			other.Step(d.given())
		}
		kept := one.Save()
		var given, went []row
		for range 12 {
			given = append(given, d.given())
			went = append(went, one.Step(given[len(given)-1]))
		}
		end := one.Save()
		if end != kept {
			many++
		}
		for _, x := range []*device.Device{one, other, put(t, image, in, out)} {
			load(t, x, kept)
			for i, g := range given {
				if got := x.Step(g); !slices.Equal(got, went[i]) {
					t.Fatalf("cycle %d behind %q: %v, want %v: %.900s", i, kept, got, went[i], tree.Print(p))
				}
			}
			holds(t, tree.Print(p), x, end)
		}
	}
	if many < 50 {
		t.Errorf("only %d devices held something else at the end", many)
	}
}

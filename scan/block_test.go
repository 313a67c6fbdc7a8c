package scan_test

import (
	"strconv"
	"testing"

	"rungwork/api"
	"rungwork/scan"
	"rungwork/value"
)

// timed is a timer, called once a cycle with what is given, and all it tells.
func timed(n int) string {
	return "in a: bool; out q: bool; out m: byte; timer t; begin t(a, " + strconv.Itoa(n) + "); q := t.q; m := t.et; end"
}

// Promise 5.2: a timer counts the cycles in which a holds, up to N, and tells that it did.
func TestTimer(t *testing.T) {
	cycles(t, timed(3),
		row{0}, row{0, 0}, row{1}, row{0, 1}, row{1}, row{0, 2}, row{1}, row{1, 3}, row{1}, row{1, 3}, row{1}, row{1, 3},
		row{0}, row{0, 0}, row{1}, row{0, 1}, row{0}, row{0, 0}, row{0}, row{0, 0}, row{1}, row{0, 1}, row{1}, row{0, 2}, row{1}, row{1, 3})
	cycles(t, timed(1), row{1}, row{1, 1}, row{1}, row{1, 1}, row{0}, row{0, 0}, row{1}, row{1, 1})
	cycles(t, timed(0), row{0}, row{0, 0}, row{1}, row{1, 0}, row{1}, row{1, 0}, row{0}, row{0, 0})
	cycles(t, "in a: bool; out q: bool; timer t; begin t(a); q := t.q; end", row{0}, row{0}, row{1}, row{1})
}

// Promise 5.2: the longest timer.
func TestLongestTimer(t *testing.T) {
	x := plant(t, timed(255))
	for i := range 300 {
		n := min(i+1, 255)
		step(t, "cycle "+strconv.Itoa(i), x, row{1}, row{value.Two(">=", api.Byte, n, 255), n})
	}
	step(t, "again", x, row{0}, row{0, 0})
	step(t, "from 0", x, row{1}, row{0, 1})
}

// Promise 5.2: N is the call's: what counted beyond a lesser one stays, and tells true; a greater one is counted to.
func TestTimerOfTwoNumbers(t *testing.T) {
	cycles(t, "in a: bool; in b: bool; out q: bool; out m: byte; timer t; begin if b then t(a, 2); else t(a, 5); end; q := t.q; m := t.et; end",
		row{1, 0}, row{0, 1}, row{1, 0}, row{0, 2}, row{1, 0}, row{0, 3}, row{1, 0}, row{0, 4},
		row{1, 1}, row{1, 4}, row{1, 1}, row{1, 4}, row{1, 0}, row{1, 5}, row{1, 1}, row{1, 5}, row{1, 0}, row{1, 5},
		row{0, 1}, row{0, 0}, row{1, 1}, row{0, 1}, row{1, 1}, row{1, 2}, row{1, 1}, row{1, 2}, row{1, 0}, row{0, 3})
}

// counted is a counter, called once a cycle with what is given, and all it tells.
func counted(n int) string {
	return "in a: bool; in b: bool; out q: bool; out m: byte; counter c; begin c(a, b, " + strconv.Itoa(n) + "); q := c.q; m := c.cv; end"
}

// Promise 5.2: a counter counts how often a begins to hold, goes on beyond N, and begins again with b.
func TestCounter(t *testing.T) {
	cycles(t, counted(2),
		row{0, 0}, row{0, 0}, row{1, 0}, row{0, 1}, row{1, 0}, row{0, 1}, row{0, 0}, row{0, 1}, row{1, 0}, row{1, 2},
		row{0, 0}, row{1, 2}, row{1, 0}, row{1, 3}, row{0, 0}, row{1, 3}, row{0, 1}, row{0, 0}, row{0, 0}, row{0, 0}, row{1, 0}, row{0, 1})
	cycles(t, counted(0), row{0, 0}, row{1, 0}, row{1, 0}, row{1, 1}, row{1, 1}, row{1, 0}, row{0, 0}, row{1, 0})
	cycles(t, counted(1), row{1, 0}, row{1, 1}, row{1, 0}, row{1, 1}, row{0, 1}, row{0, 0}, row{1, 0}, row{1, 1})
	cycles(t, "in a: bool; in b: bool; out q: bool; counter c; begin c(a, b); q := c.q; end", row{0, 0}, row{1})
}

// Promise 5.2: b is ahead of a, but what is seen then is seen: it does not count afterwards while it holds on.
func TestCounterSeesBesideB(t *testing.T) {
	cycles(t, counted(1), row{1, 1}, row{0, 0}, row{1, 0}, row{0, 0}, row{0, 0}, row{0, 0}, row{1, 0}, row{1, 1}, row{0, 1}, row{0, 0}, row{1, 0}, row{1, 1},
		row{1, 1}, row{0, 0}, row{0, 1}, row{0, 0}, row{1, 0}, row{1, 1})
}

// Promise 5.2: a counter counts to 255 and no further, whatever N is.
func TestCounterIsFull(t *testing.T) {
	for _, n := range []int{0, 1, 254, 255} {
		x := plant(t, counted(n))
		for i := range 600 {
			many := min(i/2+1, 255)
			step(t, strconv.Itoa(n)+", cycle "+strconv.Itoa(i), x, row{1 - i%2, 0}, row{value.Two(">=", api.Byte, many, n), many})
		}
		step(t, "again", x, row{0, 1}, row{value.Two("=", api.Byte, n, 0), 0})
		step(t, "from 0", x, row{1, 0}, row{value.Two("<=", api.Byte, n, 1), 1})
	}
}

// Promise 5.2: a counter's N is the call's.
func TestCounterOfTwoNumbers(t *testing.T) {
	cycles(t, "in a: bool; in b: bool; out q: bool; out m: byte; counter c; begin if b then c(a, false, 1); else c(a, false, 3); end; q := c.q; m := c.cv; end",
		row{1, 0}, row{0, 1}, row{1, 1}, row{1, 1}, row{0, 0}, row{0, 1}, row{1, 0}, row{0, 2}, row{0, 1}, row{1, 2}, row{1, 1}, row{1, 3}, row{1, 0}, row{1, 3})
}

// Promise 5.2: an edge tells that a begins to hold, for one call.
func TestEdge(t *testing.T) {
	cycles(t, "in a: bool; out q: bool; edge e; begin e(a); q := e.q; end",
		row{0}, row{0}, row{1}, row{1}, row{1}, row{0}, row{1}, row{0}, row{0}, row{0}, row{1}, row{1}, row{0}, row{0}, row{0}, row{0}, row{1}, row{1})
	cycles(t, "in a: bool; out q: bool; edge e; begin e(not a, 0); q := e.q; end", row{0}, row{1}, row{0}, row{0}, row{1}, row{0}, row{0}, row{1})
}

// Promise 5.2: a block that is not called stays as it is: what it counted, saw and tells.
func TestNotCalledStays(t *testing.T) {
	text := "in a: bool; in go: bool; out q: bool; out m: byte; timer t; begin if go then t(a, 2); end; q := t.q; m := t.et; end"
	cycles(t, text, row{1, 1}, row{0, 1}, row{0, 0}, row{0, 1}, row{1, 0}, row{0, 1}, row{1, 1}, row{1, 2}, row{0, 0}, row{1, 2}, row{0, 1}, row{0, 0})
	text = "in a: bool; in go: bool; out q: bool; edge e; begin if go then e(a); end; q := e.q; end"
	cycles(t, text, row{1, 1}, row{1}, row{0, 0}, row{1}, row{1, 0}, row{1}, row{1, 1}, row{0}, row{0, 0}, row{0}, row{1, 1}, row{0}, row{0, 1}, row{0}, row{1, 0}, row{0}, row{1, 1}, row{1})
	text = "in a: bool; in go: bool; out q: bool; out m: byte; counter c; begin if go then c(a, false, 2); end; q := c.q; m := c.cv; end"
	cycles(t, text, row{1, 1}, row{0, 1}, row{0, 0}, row{0, 1}, row{1, 1}, row{0, 1}, row{0, 1}, row{0, 1}, row{1, 0}, row{0, 1}, row{1, 1}, row{1, 2}, row{0, 0}, row{1, 2})
	text = "in a: bool; out q: bool; out r: bool; out s: bool; timer t; counter c; edge e; begin q := t.q; r := c.q; s := e.q; end"
	cycles(t, text, row{1}, row{0, 0, 0}, row{1}, row{0, 0, 0})
}

// Promise 5.2: each call counts, several in one cycle, too.
func TestCalledTwice(t *testing.T) {
	cycles(t, "in a: bool; out q: bool; out m: byte; timer t; begin t(a, 5); t(a, 5); q := t.q; m := t.et; end",
		row{1}, row{0, 2}, row{1}, row{0, 4}, row{1}, row{1, 5}, row{0}, row{0, 0})
	cycles(t, "in a: bool; out m: byte; counter c; begin c(a, false, 5); c(not a, false, 5); m := c.cv; end",
		row{1}, row{1}, row{1}, row{2}, row{0}, row{3}, row{0}, row{4})
	cycles(t, "in a: bool; out q: bool; out r: bool; edge e; begin e(a); q := e.q; e(a); r := e.q; end", row{1}, row{1, 0}, row{1}, row{0, 0}, row{0}, row{0, 0}, row{1}, row{1, 0})
}

// Promise 5.2: what a block is called with is told ahead of the call, of the block itself, too.
func TestAsksItself(t *testing.T) {
	cycles(t, "out m: byte; counter c; edge e; begin c(not e.q, c.cv = 3, 3); e(not e.q); m := c.cv; end",
		nil, row{1}, nil, row{1}, nil, row{2}, nil, row{2}, nil, row{3}, nil, row{0})
	cycles(t, "out q: bool; out m: byte; timer t; begin t(not t.q, 2); q := t.q; m := t.et; end",
		nil, row{0, 1}, nil, row{1, 2}, nil, row{0, 0}, nil, row{0, 1}, nil, row{1, 2})
	cycles(t, "out q: bool; edge e; begin e(not e.q); q := e.q; end", nil, row{1}, nil, row{0}, nil, row{1})
	cycles(t, "in a: bool; out m: byte; counter c; begin c(a, c.q, 2); m := c.cv; end",
		row{1}, row{1}, row{0}, row{1}, row{1}, row{2}, row{0}, row{0}, row{1}, row{1})
}

// Promise 5.2: blocks of one kind, and of one name's beginning, have nothing to do with one another.
func TestBlocksAlone(t *testing.T) {
	cycles(t, "in a: bool; in b: bool; out x: byte; out y: byte; timer t; timer tt; begin t(a, 9); tt(b, 9); x := t.et; y := tt.et; end",
		row{1, 0}, row{1, 0}, row{1, 1}, row{2, 1}, row{0, 1}, row{0, 2}, row{1, 0}, row{1, 0})
}

// Promise 5.2 (1.1): each mark of two, and not, of bits and of bytes, is what value tells.
func TestMarks(t *testing.T) {
	for _, op := range []string{"and", "or", "xor", "=", "<>", "<", "<=", ">", ">=", "+", "-"} {
		for kind, word := range map[int]string{api.Bool: "bool", api.Byte: "byte"} {
			result := value.Result(op, kind, kind)
			if result == 0 {
				continue
			}
			out := map[int]string{api.Bool: "bool", api.Byte: "byte"}[result]
			x := plant(t, "in a: "+word+"; in b: "+word+"; out m: "+out+"; begin m := a "+op+" b; end")
			pairs(t, x, op, kind)
		}
	}
	x := plant(t, "in a: bool; in n: byte; out q: bool; out m: byte; begin q := not a; m := not n; end")
	for n := range 256 {
		step(t, "not", x, row{n, n}, row{1 - n%2, 255 - n})
	}
}

// pairs asks a plant of one mark for what it makes of two numbers, all along the edges of a type.
func pairs(t *testing.T, x *scan.Plant, op string, kind int) {
	t.Helper()
	for _, a := range []int{0, 1, 2, 6, 10, 100, 127, 128, 129, 200, 250, 254, 255} {
		for _, b := range []int{0, 1, 2, 6, 10, 100, 127, 128, 129, 200, 250, 254, 255} {
			step(t, op, x, row{a, b}, row{value.Two(op, kind, a, b)})
		}
	}
}

// Promise 5.2: expressions of several marks: types are told part by part, marks are put together as the text says.
func TestExpressions(t *testing.T) {
	for _, c := range []struct {
		text string
		want int
	}{
		{"250 + 10", 4}, {"3 - 10", 249}, {"10 - 3 - 2", 5}, {"10 - (3 - 2)", 9}, {"not 0", 255}, {"not 0 + 1", 0}, {"not (0 + 1)", 254}, {"not not 7", 7},
		{"12 and 10", 8}, {"12 or 10", 14}, {"12 xor 10", 6}, {"1 or 2 xor 3 and 6", 1}, {"255", 255}, {"0", 0}, {"007", 7}, {"200 + 100 - 50", 250}, {"12 and 4 + 4", 8},
	} {
		cycles(t, "out m: byte; begin m := "+c.text+"; end", nil, row{c.want})
	}
	for _, c := range []struct {
		text string
		want int
	}{
		{"true", 1}, {"false", 0}, {"not true", 0}, {"not not true", 1}, {"not false", 1}, {"true and false", 0}, {"true or false", 1}, {"true xor true", 0},
		{"true = true", 1}, {"true <> true", 0}, {"false = false", 1}, {"3 < 4", 1}, {"4 < 3", 0}, {"4 <= 4", 1}, {"200 > 100", 1}, {"3 >= 4", 0}, {"250 + 10 = 4", 1}, {"250 + 10 > 250", 0},
		{"1 - 2 > 0", 1}, {"3 < 4 = true", 1}, {"3 = 3 = false", 0}, {"not 254 = 1", 1}, {"not (254 = 1)", 1}, {"not (254 = 254)", 0}, {"(1 and 2) = 0", 1},
		{"true or true and false", 1}, {"(true or true) and false", 0}, {"false xor true or true", 1}, {"not true or true", 1}, {"not (true or true)", 0},
	} {
		cycles(t, "out q: bool; begin q := "+c.text+"; end", nil, row{c.want})
	}
}

// Promise 5.2: fields in expressions, with bits and bytes beside them.
func TestFieldsInExpressions(t *testing.T) {
	cycles(t, "in a: bool; out q: bool; out m: byte; timer t; counter c; edge e; begin t(a, 200); c(a, false, 1); e(a); m := not t.et - c.cv; q := not (t.q or c.q = e.q); end",
		row{1}, row{0, 253}, row{1}, row{1, 252}, row{0}, row{1, 254})
}

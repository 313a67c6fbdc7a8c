package blast_test

import (
	"slices"
	"strconv"
	"testing"

	"rungwork/api"
	"rungwork/value"
)

// timed is a timer, called once a cycle with what is given, and all it tells.
func timed(n int) string {
	return "in a: bool; out q: bool; out m: byte; timer t; begin t(a, " + strconv.Itoa(n) + "); q := t.q; m := t.et; end"
}

// counted is a counter, called once a cycle with what is given, and all it tells.
func counted(n int) string {
	return "in a: bool; in b: bool; out q: bool; out m: byte; counter c; begin c(a, b, " + strconv.Itoa(n) + "); q := c.q; m := c.cv; end"
}

// Promise 7.1 (5.2): a timer counts the cycles in which a holds, up to N, and tells that it did.
func TestTimer(t *testing.T) {
	cycles(t, timed(3),
		row{0}, row{0, 0}, row{1}, row{0, 1}, row{1}, row{0, 2}, row{1}, row{1, 3}, row{1}, row{1, 3},
		row{0}, row{0, 0}, row{1}, row{0, 1}, row{0}, row{0, 0}, row{1}, row{0, 1}, row{1}, row{0, 2}, row{1}, row{1, 3})
	cycles(t, timed(1), row{1}, row{1, 1}, row{1}, row{1, 1}, row{0}, row{0, 0})
	cycles(t, timed(0), row{0}, row{0, 0}, row{1}, row{1, 0}, row{1}, row{1, 0}, row{0}, row{0, 0})
	cycles(t, "in a: bool; out q: bool; timer t; begin t(a); q := t.q; end", row{0}, row{0}, row{1}, row{1})
	for _, n := range []int{2, 85, 127, 128, 129, 170, 254, 255} {
		x := made(t, parse(t, timed(n)))
		for i := range 260 {
			many := min(i+1, n)
			if got, want := x.step(t, row{1}), (row{value.Two(">=", api.Byte, many, n), many}); !slices.Equal(got, want) {
				t.Fatalf("a timer of %d, cycle %d: %v, want %v", n, i, got, want)
			}
		}
		x.step(t, row{0})
		x.step(t, row{1})
	}
}

// Promise 7.1 (5.2): N is the call's: what counted beyond a lesser one stays, and tells true; a greater one is counted to.
func TestTwoNumbers(t *testing.T) {
	cycles(t, "in a: bool; in b: bool; out q: bool; out m: byte; timer t; begin if b then t(a, 2); else t(a, 5); end; q := t.q; m := t.et; end",
		row{1, 0}, row{0, 1}, row{1, 0}, row{0, 2}, row{1, 0}, row{0, 3}, row{1, 0}, row{0, 4},
		row{1, 1}, row{1, 4}, row{1, 1}, row{1, 4}, row{1, 0}, row{1, 5}, row{1, 1}, row{1, 5},
		row{0, 1}, row{0, 0}, row{1, 1}, row{0, 1}, row{1, 1}, row{1, 2}, row{1, 1}, row{1, 2}, row{1, 0}, row{0, 3})
	cycles(t, "in a: bool; in b: bool; out q: bool; out m: byte; counter c; begin if b then c(a, false, 1); else c(a, false, 3); end; q := c.q; m := c.cv; end",
		row{1, 0}, row{0, 1}, row{1, 1}, row{1, 1}, row{0, 0}, row{0, 1}, row{1, 0}, row{0, 2}, row{0, 1}, row{1, 2}, row{1, 1}, row{1, 3}, row{1, 0}, row{1, 3})
}

// Promise 7.1 (5.2): a counter counts how often a begins to hold, goes on beyond N, and begins again with b, beside which it sees a.
func TestCounter(t *testing.T) {
	cycles(t, counted(2),
		row{0, 0}, row{0, 0}, row{1, 0}, row{0, 1}, row{1, 0}, row{0, 1}, row{0, 0}, row{0, 1}, row{1, 0}, row{1, 2},
		row{0, 0}, row{1, 2}, row{1, 0}, row{1, 3}, row{0, 1}, row{0, 0}, row{0, 0}, row{0, 0}, row{1, 0}, row{0, 1})
	cycles(t, counted(0), row{0, 0}, row{1, 0}, row{1, 0}, row{1, 1}, row{1, 1}, row{1, 0}, row{0, 0}, row{1, 0})
	cycles(t, counted(1), row{1, 1}, row{0, 0}, row{1, 0}, row{0, 0}, row{0, 0}, row{0, 0}, row{1, 0}, row{1, 1}, row{0, 1}, row{0, 0}, row{1, 0}, row{1, 1})
	cycles(t, "in a: bool; in b: bool; out q: bool; counter c; begin c(a, b); q := c.q; end", row{0, 0}, row{1})
}

// Promise 7.1 (5.2): a counter counts to 255 and no further, whatever N is.
func TestCounterIsFull(t *testing.T) {
	for _, n := range []int{0, 1, 100, 254, 255} {
		x := made(t, parse(t, counted(n)))
		for i := range 530 {
			many := min(i/2+1, 255)
			if got, want := x.step(t, row{1 - i%2, 0}), (row{value.Two(">=", api.Byte, many, n), many}); !slices.Equal(got, want) {
				t.Fatalf("a counter of %d, cycle %d: %v, want %v", n, i, got, want)
			}
		}
		x.step(t, row{1, 1})
		x.step(t, row{0, 0})
		x.step(t, row{1, 0})
	}
}

// Promise 7.1 (5.2): an edge tells that a begins to hold, for one call.
func TestEdge(t *testing.T) {
	cycles(t, "in a: bool; out q: bool; edge e; begin e(a); q := e.q; end",
		row{0}, row{0}, row{1}, row{1}, row{1}, row{0}, row{1}, row{0}, row{0}, row{0}, row{1}, row{1}, row{0}, row{0}, row{1}, row{1})
	cycles(t, "in a: bool; out q: bool; edge e; begin e(not a, 0); q := e.q; end", row{0}, row{1}, row{0}, row{0}, row{1}, row{0}, row{0}, row{1})
}

// Promise 7.1 (5.2): a block that is not called stays as it is: what it counted, saw and tells.
func TestNotCalledStays(t *testing.T) {
	text := "in a: bool; in go: bool; out q: bool; out m: byte; timer t; begin if go then t(a, 2); end; q := t.q; m := t.et; end"
	cycles(t, text, row{1, 1}, row{0, 1}, row{0, 0}, row{0, 1}, row{1, 0}, row{0, 1}, row{1, 1}, row{1, 2}, row{0, 0}, row{1, 2}, row{0, 1}, row{0, 0})
	text = "in a: bool; in go: bool; out q: bool; edge e; begin if go then e(a); end; q := e.q; end"
	cycles(t, text, row{1, 1}, row{1}, row{0, 0}, row{1}, row{1, 0}, row{1}, row{1, 1}, row{0}, row{0, 0}, row{0}, row{1, 1}, row{0}, row{0, 1}, row{0}, row{1, 0}, row{0}, row{1, 1}, row{1})
	text = "in a: bool; in go: bool; out q: bool; out m: byte; counter c; begin if go then c(a, false, 2); end; q := c.q; m := c.cv; end"
	cycles(t, text, row{1, 1}, row{0, 1}, row{0, 0}, row{0, 1}, row{1, 1}, row{0, 1}, row{0, 1}, row{0, 1}, row{1, 0}, row{0, 1}, row{1, 1}, row{1, 2}, row{0, 0}, row{1, 2})
	text = "out q: bool; out m: byte; timer t; begin if false then t(true, 2); end; q := t.q; m := t.et; end"
	cycles(t, text, nil, row{0, 0}, nil, row{0, 0})
}

// Promise 7.1 (5.2): each call counts, several in one cycle, too.
func TestCalledTwice(t *testing.T) {
	cycles(t, "in a: bool; out q: bool; out m: byte; timer t; begin t(a, 5); t(a, 5); q := t.q; m := t.et; end",
		row{1}, row{0, 2}, row{1}, row{0, 4}, row{1}, row{1, 5}, row{0}, row{0, 0})
	cycles(t, "in a: bool; out m: byte; counter c; begin c(a, false, 5); c(not a, false, 5); m := c.cv; end",
		row{1}, row{1}, row{1}, row{2}, row{0}, row{3}, row{0}, row{4})
	cycles(t, "in a: bool; out q: bool; out r: bool; edge e; begin e(a); q := e.q; e(a); r := e.q; end", row{1}, row{1, 0}, row{1}, row{0, 0}, row{0}, row{0, 0}, row{1}, row{1, 0})
}

// Promise 7.1 (5.2): what a block is called with is told ahead of the call, of the block itself, too.
func TestAsksItself(t *testing.T) {
	cycles(t, "out m: byte; counter c; edge e; begin c(not e.q, c.cv = 3, 3); e(not e.q); m := c.cv; end",
		nil, row{1}, nil, row{1}, nil, row{2}, nil, row{2}, nil, row{3}, nil, row{0})
	cycles(t, "out q: bool; out m: byte; timer t; begin t(not t.q, 2); q := t.q; m := t.et; end",
		nil, row{0, 1}, nil, row{1, 2}, nil, row{0, 0}, nil, row{0, 1}, nil, row{1, 2})
	cycles(t, "out q: bool; edge e; begin e(not e.q); q := e.q; end", nil, row{1}, nil, row{0}, nil, row{1})
	cycles(t, "in a: bool; out m: byte; counter c; begin c(a, c.q, 2); m := c.cv; end",
		row{1}, row{1}, row{0}, row{1}, row{1}, row{2}, row{0}, row{0}, row{1}, row{1})
}

// Promise 7.1 (5.2): blocks have nothing to do with one another, nor with names that are called as their parts.
func TestBlocksAlone(t *testing.T) {
	cycles(t, "in a: bool; in b: bool; out x: byte; out y: byte; timer t; timer tt; begin t(a, 9); tt(b, 9); x := t.et; y := tt.et; end",
		row{1, 0}, row{1, 0}, row{1, 1}, row{2, 1}, row{0, 1}, row{0, 2}, row{1, 0}, row{1, 0})
	cycles(t, "in a: bool; out q: bool; out saw: bool; out et: byte; timer t; edge e; begin t(a, 9); e(a); saw := not e.q; et := t.et + et; q := e.q; end",
		row{1}, row{1, 0, 1}, row{1}, row{0, 1, 3}, row{0}, row{0, 1, 3}, row{1}, row{1, 0, 4})
	cycles(t, "in a: bool; out q: bool; edge e; edge f; begin e(a); f(e.q); q := f.q; end", row{1}, row{1}, row{1}, row{0}, row{0}, row{0}, row{1}, row{1})
}

package desk_test

import (
	"testing"
)

// Promise 12.1: step does a cycle of the plant, and tells what comes out.
func TestStep(t *testing.T) {
	says(t, "new in a: bool; in n: byte; out q: bool; var v: byte; out m: byte = 200; begin q := a; m := m + n; v := v + 1; end", "new 5",
		"step", "step 0 200", "step 1", "step 1 200", "step 1 10", "step 1 210", "step 0 46", "step 0 0", "step 3 256 7 8 9", "step 1 0", "step -2 -1", "step 0 255", "get v", "get 6", "get a", "get 0", "get n", "get 255")
	says(t, "new in a: bool; begin end", "new 1", "step", "step", "step 1 2 3", "step", "get a", "get 1")
	says(t, "new out q: bool = true; out m: byte = 9; out p: bool; begin end", "new 3", "step 4 5 6", "step 1 9 0")
}

// Promise 12.1: step does a cycle of the device, too.
func TestStepBoth(t *testing.T) {
	says(t, "new in n: byte; out m: byte; begin m := m + n; end", "new 2", "build", "build", "step 5", "step 5", "same 0", "same true", "step 250", "step 255", "same 7 7 7", "same true")
}

// Promise 12.1: with build, the plant and the device are at first, and nothing is kept.
func TestBuild(t *testing.T) {
	says(t, "new in a: bool; out m: byte = 7; timer t; begin t(a, 9); m := m + t.et; end", "new 3", "step 1", "step 8", "step 1", "step 10",
		"build", "build", "get m", "get 7", "get t.et", "get 0", "same 0 1 1 0", "same true", "save", "save", "step 1", "step 11",
		"build", "build", "get m", "get 7", "load", "error 7", "same 1 1 1", "same true", "save", "save", "load", "load")
	says(t, "new in a: bool; begin end", "new 1", "build", "build", "same 1", "same true", "save", "save", "load", "load")
	says(t, "new in a: bool; out m: byte; in n: byte; out q: bool; begin m := n; q := a; end", "new 4", "build", "build", "same 0 1 77 255 -3", "same true", "step 1 9", "step 9 1")
}

// Promise 12.1: same is ErrMissing without a device; it does a Step of both for each number.
func TestSame(t *testing.T) {
	const program = "new in n: byte; out m: byte; begin m := m + n; end"
	says(t, program, "new 2", "same", "error 7", "same 1", "error 7", "get m", "get 0", "build", "build", "same", "same true", "get m", "get 0",
		"same 1", "same true", "get m", "get 1", "same 1 2 3", "same true", "get m", "get 7", "same -7", "same true", "get m", "get 0")
}

// Promise 12.1: same is false, if they let out something else, and then no more is done.
func TestSameFalse(t *testing.T) {
	says(t, "new in n: byte; out m: byte; begin m := m + n; end", "new 2", "build", "build", "save", "save", "step 1", "step 1", "load", "load",
		"same 1 1 1", "same false", "get m", "get 2", "same", "same true", "same 5 6", "same false", "get m", "get 7")
	// Both do a Step where it is false: what lies at its most stays, and so they are the same behind it.
	says(t, "new in n: byte; out m: byte; begin if m < 3 then m := m + n; end; end", "new 2", "build", "build", "save", "save", "step 2", "step 2", "load", "load",
		"same 1 1 1 1", "same false", "get m", "get 3", "same 1 1 1 1", "same false", "same 1 1 1 1", "same true", "get m", "get 3")
	// What is not let out may be another.
	says(t, "new in n: byte; var k: byte; out q: bool; begin k := k + n; q := k > 2; end", "new 3", "build", "build", "save", "save", "step 1", "step 0", "load", "load",
		"same 1 0 1 1 1", "same false", "get k", "get 3")
}

// Promise 12.1: the numbers given are N, N and 1, and so on.
func TestSameGiven(t *testing.T) {
	says(t, "new in a: byte; in b: byte; out q: bool; in c: bool; in d: byte; in e: bool; begin q := a + 1 = b and c = not e; end", "new 6", "build", "build",
		"same 7", "same true", "get a", "get 7", "get b", "get 8", "get c", "get 1", "get d", "get 10", "get e", "get 1", "get q", "get 0",
		"same 4 254", "same true", "get a", "get 254", "get b", "get 255", "get c", "get 0", "get d", "get 1", "get e", "get 0",
		"same -1", "same true", "get a", "get 255", "get b", "get 0", "get c", "get 1", "get d", "get 2", "get e", "get 1",
		"same 9223372036854775807", "same true", "get a", "get 255", "get b", "get 0", "get c", "get 1", "get d", "get 2",
		"same -9223372036854775808", "same true", "get a", "get 0", "get b", "get 1", "get c", "get 0", "get d", "get 3", "get e", "get 0")
	says(t, "new in n: byte; out m: byte; out p: byte; begin p := m; m := n; end", "new 3", "build", "build", "same 250 9", "same true", "get m", "get 9", "get p", "get 250")
}

// Promise 12.1: get tells a name's value, or a block's field; ErrMissing: there is none such.
func TestGet(t *testing.T) {
	says(t, "new in a: bool; out q: bool = true; var v: byte = 9; timer t; counter c; edge e; begin t(a, 2); c(a, false, 1); e(a); q := e.q; v := v - 1; end", "new 6",
		"get a", "get 0", "get q", "get 1", "get v", "get 9", "get t.q", "get 0", "get t.et", "get 0", "get c.cv", "get 0", "get c.q", "get 0", "get e.q", "get 0",
		"step 1", "step 1", "get a", "get 1", "get q", "get 1", "get v", "get 8", "get t.q", "get 0", "get t.et", "get 1", "get c.cv", "get 1", "get c.q", "get 1", "get e.q", "get 1",
		"step 1", "step 0", "get t.q", "get 1", "get t.et", "get 2", "get e.q", "get 0", "get q", "get 0",
		"get q.", "get 0", "get a.", "get 1", "get v.", "get 7")
	for _, name := range []string{"zz", "A", "t", "c", "e", "t.", "zz.q", "zz.", ".", "..", ".q", ".q.", "q.q", "v.et", "t.cv", "c.et", "e.et", "e.cv", "t.zz", "t.Q", "t..q", "t.q.q", "t.q.", "q.a", "q..", "1", "-1", "true", "t,q", "q;", "\xff", "t.\xff"} {
		says(t, "get "+name, "error 7", "new in a: bool; out q: bool; var v: byte; timer t; counter c; edge e; begin end", "new 6", "get "+name, "error 7", "build", "build", "get "+name, "error 7")
	}
}

// Promise 12.1: get tells of the plant, not of the device.
func TestGetPlant(t *testing.T) {
	says(t, "new out m: byte; begin m := m + 1; end", "new 1", "build", "build", "save", "save", "step", "step 1", "step", "step 2", "load", "load", "get m", "get 2", "step", "step 3", "get m", "get 3")
}

// Promise 12.1: save keeps what the device holds, load lets it hold that again; ErrMissing: no device; nothing kept.
func TestSaveLoad(t *testing.T) {
	const program = "new in n: byte; out m: byte; begin if n <> 0 then m := m + n; end; if n = 200 then m := 0; end; end"
	says(t, program, "new 2", "save", "error 7", "load", "error 7", "build", "build", "load", "error 7", "save", "save", "same 1 1", "same true", "load", "load",
		"same 0", "same false", "get m", "get 2", "same 200", "same true", "same 0", "same true", "load", "load", "load", "load", "same 0 1", "same true")
	// What was kept ahead is kept no more, and load keeps it.
	says(t, program, "new 2", "build", "build", "save", "save", "step 5", "step 5", "save", "save", "step 1", "step 6", "load", "load", "same 0", "same false", "step 200", "step 0", "step 5", "step 5", "load", "load", "same 0 1 2", "same true",
		"step 200", "step 0", "step 5", "step 5", "load", "load", "same 0", "same true")
	// A device without registers holds nothing, and that is kept.
	says(t, "new in a: bool; out q: bool; begin q := a; end", "new 2", "build", "build", "load", "error 7", "save", "save", "step 1", "step 1", "load", "load", "same 0 1", "same true", "build", "build", "load", "error 7")
}

package many_test

import (
	"math"
	"slices"
	"strconv"
	"strings"
	"testing"

	"rungwork/api"
	"rungwork/desk"
	"rungwork/many"
	"rungwork/plain"
)

// all asks for answers where nothing is wrong.
func all(t *testing.T, texts []string, workers int) []string {
	t.Helper()
	l, err := many.All(texts, workers)
	if err != nil {
		t.Fatalf("%d texts, %d workers: error %d", len(texts), workers, api.Tell(err))
	}
	return l
}

// texts are so many, each with answers of its own; some take much longer than others.
func texts(n int) []string {
	var l []string
	for i := range n {
		k := strconv.Itoa(i)
		long := strings.Repeat("same 1 2 3\nbuild\n", i*7%5*20)
		l = append(l, "new in n: byte; out m: byte = "+k+"; timer t; begin t(n > 9, "+k+"); m := m + n; end\nbuild\n"+long+"step "+k+"\nsave\nstep 200\nload\nsame 0\nget t.et")
	}
	return l
}

// Promise 13.1: what comes of texts is Session of each, in order, however many workers there are.
func TestAll(t *testing.T) {
	for _, n := range []int{0, 1, 2, 3, 15, 16, 17, 50} {
		in := texts(n)
		var want []string
		for _, s := range in {
			want = append(want, desk.Session(s))
		}
		for workers := 1; workers <= 16; workers++ {
			if got := all(t, in, workers); !slices.Equal(got, want) {
				t.Errorf("%d texts, %d workers: %.900q", n, workers, got)
			}
		}
	}
}

// Promise 13.1 (12.1): each text's answers are its own: no plant, no device and nothing kept of another.
func TestAlone(t *testing.T) {
	in := []string{
		"new in a: bool; out q: bool; begin q := not a; end\nbuild\nsave\nstep", "load\nprint\nstep", "", "\n", "save", "x", strings.Repeat("x", api.MaxText+1), "get q", "new in a: bool; out q: bool; begin q := not a; end\nload\nget q", "help 1\n\n",
	}
	want := []string{
		"new 2\nbuild\nsave\nstep 1\n", "error 7\nprint begin|end|\nstep\n", "ok\n", "ok\n", "error 7\n", "error 3\n", "error 4\n", "error 7\n", "new 2\nerror 7\nget 0\n", "error 3\nok\n",
	}
	for workers := 1; workers <= 16; workers++ {
		for range 5 {
			if got := all(t, in, workers); !slices.Equal(got, want) {
				t.Errorf("%d workers: %q", workers, got)
			}
		}
	}
}

// Promise 13.1: the same text, many times over, is answered the same.
func TestAlike(t *testing.T) {
	s := texts(4)[3]
	for workers := 1; workers <= 16; workers++ {
		if got := all(t, slices.Repeat([]string{s}, 50), workers); !slices.Equal(got, slices.Repeat([]string{desk.Session(s)}, 50)) {
			t.Errorf("%d workers: %.900q", workers, got)
		}
	}
}

// Promise 13.1: ErrLimit: more than 50 texts, or workers is not from 1 to 16; no At is in it, and there is nothing beside it.
func TestLimit(t *testing.T) {
	for _, c := range []struct{ texts, workers int }{
		{51, 1}, {51, 16}, {52, 3}, {1000, 1}, {0, 0}, {1, 0}, {50, 0}, {0, 17}, {1, 17}, {50, 17}, {1, -1}, {0, -16}, {50, 1000}, {3, math.MaxInt}, {3, math.MinInt}, {51, 0}, {51, 17},
	} {
		for _, s := range []string{"", "help", strings.Repeat("x", api.MaxText+1)} {
			l, err := many.All(slices.Repeat([]string{s}, c.texts), c.workers)
			if e, at := plain.Place(err); e != api.ErrLimit || at != -1 || l != nil {
				t.Errorf("%v: error %d at %d, %.300q", c, e, at, l)
			}
		}
	}
	for _, workers := range []int{1, 16} {
		if l := all(t, make([]string, 50), workers); !slices.Equal(l, slices.Repeat([]string{"ok\n"}, 50)) {
			t.Errorf("%d workers: %q", workers, l)
		}
		if l := all(t, nil, workers); len(l) != 0 {
			t.Errorf("%d workers: %q", workers, l)
		}
	}
}

// Promise P4: the list that is handed in is not written into, nor what stands behind its length; what comes out is fresh.
func TestFresh(t *testing.T) {
	in := []string{"check", "help x", "step", "x"}
	was := slices.Clone(in)
	one := all(t, in[:3], 2)
	if !slices.Equal(in, was) || !slices.Equal(one, []string{"check 0\n", "error 3\n", "step\n"}) {
		t.Errorf("%q: %q", in, one)
	}
	in[0], one[1] = "x", "y"
	if two := all(t, was[:3], 2); !slices.Equal(two, []string{"check 0\n", "error 3\n", "step\n"}) || one[0] != "check 0\n" {
		t.Errorf("%q, %q", one, two)
	}
}

// Promise 13.1: no worker is left when the call answers, and calls beside one another know nothing of each other.
func TestBeside(t *testing.T) {
	in, done := texts(9), make(chan []string)
	for i := range 8 {
		go func() {
			l, _ := many.All(in, i+1)
			done <- l
		}()
	}
	want := all(t, in, 1)
	for range 8 {
		if got := <-done; !slices.Equal(got, want) {
			t.Errorf("%.900q", got)
		}
	}
}

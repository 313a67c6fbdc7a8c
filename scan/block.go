package scan

import (
	"rungwork/api"
	"rungwork/check"
)

// mostCounted is how far a counter counts.
const mostCounted = 255

// block is a timer, a counter or an edge: how far it counted, what it saw last, what it tells.
type block struct {
	kind    int
	counted int
	saw     bool
	tells   bool
}

// field is what a block's field is (of type 0: it has none such).
func (b block) field(name string) typed {
	f := typed{kind: check.Field(b.kind, name)}
	switch f.kind {
	case api.Bool:
		f.n = bit(b.tells)
	case api.Byte:
		f.n = b.counted
	}
	return f
}

// timer is a timer behind a call.
func (b block) timer(a bool, n int) block {
	if !a {
		b.counted = 0
	} else if b.counted < n {
		b.counted++
	}
	b.tells = a && b.counted >= n
	return b
}

// counter is a counter behind a call.
func (b block) counter(up, again bool, n int) block {
	if again {
		b.counted = 0
	} else if up && !b.saw && b.counted < mostCounted {
		b.counted++
	}
	b.saw = up
	b.tells = b.counted >= n
	return b
}

// edge is an edge behind a call.
func (b block) edge(a bool) block {
	b.tells = a && !b.saw
	b.saw = a
	return b
}

// bit is 1 of true, 0 of false.
func bit(b bool) int {
	if b {
		return 1
	}
	return 0
}

package lut

import (
	"slices"

	"rungwork/gate"
)

// plain is a signal as it is.
func plain(signal int) Lut { return Lut{Ins: []int{signal}, Table: 2} }

// same says whether a table lets out its one signal as it is.
func (l Lut) same() bool { return len(l.Ins) == 1 && l.Table == 2 }

// free says whether what a table lets out is there without it: it is known, or another signal.
func (l Lut) free() bool { return len(l.Ins) == 0 || l.same() }

// join is a gate of two tables as one table of all their signals; false: these are too many.
func join(op int, a, b Lut) (Lut, bool) {
	ins := slices.Concat(a.Ins, b.Ins)
	slices.Sort(ins)
	ins = slices.Compact(ins)
	if len(ins) > most {
		return Lut{}, false
	}
	l := Lut{Ins: ins}
	for k := range 1 << len(ins) {
		look := func(signal int) bool { return k>>slices.Index(ins, signal)&1 == 1 }
		if gated(op, a.bit(look), b.bit(look)) {
			l.Table |= 1 << k
		}
	}
	return l.short(), true
}

// gated is what a gate makes of two bits (Not: of the first one).
func gated(op int, a, b bool) bool {
	switch op {
	case gate.And:
		return a && b
	case gate.Or:
		return a || b
	case gate.Xor:
		return a != b
	}
	return !a
}

// short is a table without the signals on which nothing hangs in it; its list of signals may be written into.
func (l Lut) short() Lut {
	for in := len(l.Ins) - 1; in >= 0; in-- {
		if table := l.half(in, 0); table == l.half(in, 1) {
			l = Lut{Ins: slices.Delete(l.Ins, in, in+1), Table: table}
		}
	}
	return l
}

// half is the table of the other signals where one of them is 0, or 1.
func (l Lut) half(in, is int) int {
	table := 0
	for k := range 1 << (len(l.Ins) - 1) {
		low := k & (1<<in - 1)
		whole := (k-low)<<1 | is<<in | low
		table |= l.Table >> whole & 1 << k
	}
	return table
}

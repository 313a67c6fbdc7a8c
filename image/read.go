package image

import (
	"rungwork/api"
	"rungwork/lut"
)

// What no net that may be has more of: signals of a table, and bytes of a number.
const (
	mostIns = 4
	longest = 4
)

// reader reads numbers. It finds no fault: what it makes of bytes that are no net is written otherwise than they are, and by that Parse knows them.
type reader struct {
	left string // what is not read yet
}

// net reads a net.
func (r *reader) net() *lut.Net {
	n := &lut.Net{Given: r.number()}
	for range r.many(api.MaxNodes) {
		n.Regs = append(n.Regs, lut.Reg{Init: r.number() == 1, Next: r.number()})
	}
	for range r.many(api.MaxNodes) {
		n.Luts = append(n.Luts, lut.Lut{Ins: r.list(mostIns), Table: r.number()})
	}
	n.Outs = r.list(api.MaxNodes)
	return n
}

// list reads how many numbers there are, and these.
func (r *reader) list(most int) []int {
	var l []int
	for range r.many(most) {
		l = append(l, r.number())
	}
	return l
}

// many reads how many there are; of more than there may be, or than bytes are left for, the rest is left out, so that few bytes can't ask for much.
func (r *reader) many(most int) int {
	return min(r.number(), most, len(r.left))
}

// number reads a number, as far as it goes.
func (r *reader) number() int {
	k := 0
	for i := range min(longest, len(r.left)) {
		b := int(r.left[0])
		r.left = r.left[1:]
		k += b % more << (seven * i)
		if b < more {
			break
		}
	}
	return k
}

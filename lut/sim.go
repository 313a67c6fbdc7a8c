package lut

import (
	"slices"

	"rungwork/api"
)

// Sim goes through a net, cycle by cycle.
type Sim struct {
	net  Net
	held []bool // what each register is
}

// New is a net at first. ErrArg: it may not be.
func New(n *Net) (_ *Sim, _ error) {
	if !n.Right() {
		return nil, api.ErrArg
	}
	s := &Sim{net: n.copied(), held: make([]bool, len(n.Regs))}
	for i, r := range n.Regs {
		s.held[i] = r.Init
	}
	return s, nil
}

// copied is a net into which nobody else writes.
func (n *Net) copied() Net {
	c := Net{Given: n.Given, Regs: slices.Clone(n.Regs), Luts: slices.Clone(n.Luts), Outs: slices.Clone(n.Outs)}
	for i, l := range c.Luts {
		c.Luts[i].Ins = slices.Clone(l.Ins)
	}
	return c
}

// Regs are the registers now.
func (s *Sim) Regs() (_ []bool) {
	if s == nil {
		return nil // New made it so, beside an error
	}
	return slices.Clone(s.held)
}

// Put lets the registers be others. ErrArg: not as many.
func (s *Sim) Put(l []bool) (_ error) {
	if s == nil || len(l) != len(s.held) {
		return api.ErrArg
	}
	s.held = slices.Clone(l)
	return nil
}

// Step does a cycle: bits that are given (what is missing is false); those that come out.
func (s *Sim) Step(given []bool) (_ []bool) {
	if s == nil {
		return nil // New made it so, beside an error
	}
	look := s.cycle(given)
	outs := make([]bool, len(s.net.Outs))
	for i, o := range s.net.Outs {
		outs[i] = look(o)
	}
	next := make([]bool, len(s.held)) // they move all at once: one may be another one's next
	for i, r := range s.net.Regs {
		next[i] = look(r.Next)
	}
	s.held = next
	return outs
}

// cycle goes through the tables, and lets the signals of that cycle be looked at; each table has such as are ahead of it alone, so that one way through is enough.
func (s *Sim) cycle(given []bool) func(signal int) bool {
	held, tables := s.held, make([]bool, 0, len(s.net.Luts))
	look := func(signal int) bool {
		kept := signal - s.net.Given
		switch {
		case kept < 0:
			return signal < len(given) && given[signal]
		case kept < len(held):
			return held[kept]
		}
		return tables[kept-len(held)]
	}
	for _, l := range s.net.Luts {
		tables = append(tables, l.bit(look))
	}
	return look
}

package lut

import (
	"cmp"
	"slices"

	"rungwork/api"
	"rungwork/gate"
)

// few is how many ways of a gate are tried in those behind it; more of them would hardly save a table.
const few = 4

// packer finds, of each node of a net of gates, tables that let out what it is: its ways. Their signals are numbered as if each node had a table of its own.
type packer struct {
	first int     // the first node's signal
	reg   int     // the next register's signal
	ways  [][]Lut // of each node, the best one first
	deep  []int   // of each signal: how many tables lie behind one another up to it
}

// Pack makes a net of tables of a net of gates that does the same. ErrArg: it may not be.
func Pack(n *gate.Net) (_ *Net, _ error) {
	if !n.Right() {
		return nil, api.ErrArg
	}
	p := &packer{first: n.Given, reg: n.Given}
	for _, x := range n.Nodes {
		if x.Op == gate.Reg {
			p.first++
		}
	}
	p.deep = make([]int, p.first+len(n.Nodes))
	for _, x := range n.Nodes {
		p.ways = append(p.ways, p.node(x))
	}
	return p.lay(n), nil
}

// node finds the ways of the node behind those that have theirs. What is known is a table without signals, so that those behind it have none more to look at.
func (p *packer) node(x gate.Node) []Lut {
	switch x.Op {
	case gate.Zero:
		return []Lut{{Table: 0}}
	case gate.One:
		return []Lut{{Table: 1}}
	case gate.In:
		return []Lut{plain(x.A)}
	case gate.Reg:
		p.reg++
		return []Lut{plain(p.reg - 1)}
	case gate.Not:
		return p.gate(x.Op, p.ways[x.A], []Lut{{}})
	}
	return p.gate(x.Op, p.ways[x.A], p.ways[x.B])
}

// gate finds the ways of a gate by those of what it reads: the best ones, and, for those behind it, its own table's signal. No way is deeper than the gates are, as whatever it looks at has fewer of them behind one another than the gate.
func (p *packer) gate(op int, as, bs []Lut) []Lut {
	var l []Lut
	for _, a := range as {
		for _, b := range bs {
			if way, ok := join(op, a, b); ok {
				l = append(l, way)
			}
		}
	}
	slices.SortStableFunc(l, p.compare)
	l = slices.CompactFunc(l, func(a, b Lut) bool { return slices.Equal(a.Ins, b.Ins) })
	if l[0].free() {
		return l[:1] // it has no table of its own that could be looked at
	}
	signal := p.first + len(p.ways)
	p.deep[signal] = p.depth(l[0])
	return append(l[:min(few, len(l))], plain(signal))
}

// compare is below 0 if one way is better than another one: it is less deep, or it needs no table, or fewer signals. (What is no better than the other is in order of signals, so that those that are alike stand together.)
func (p *packer) compare(a, b Lut) int {
	need := func(l Lut) int {
		if l.free() {
			return 0
		}
		return len(l.Ins)
	}
	return cmp.Or(cmp.Compare(p.depth(a), p.depth(b)), cmp.Compare(need(a), need(b)), slices.Compare(a.Ins, b.Ins))
}

// depth is how many tables lie behind one another up to a way's end.
func (p *packer) depth(l Lut) int {
	if l.free() {
		return l.behind(p.deep)
	}
	return 1 + l.behind(p.deep)
}

// lay is the net of such tables as are needed for what comes out, and for what is kept, each behind those at which it looks: of each gate one at most, and one of all that is known to be false, or true.
func (p *packer) lay(n *gate.Net) *Net {
	net, signals := &Net{Given: n.Given}, map[int]int{}
	var look func(node int) int
	ahead := func(signal int) int {
		if signal < p.first {
			return signal
		}
		return look(signal - p.first)
	}
	look = func(node int) int {
		way, key := p.ways[node][0], node
		switch {
		case way.same():
			return ahead(way.Ins[0])
		case len(way.Ins) == 0:
			key = -1 - way.Table // whichever node it is
		}
		if _, ok := signals[key]; !ok {
			l := Lut{Table: way.Table}
			for _, in := range way.Ins {
				l.Ins = append(l.Ins, ahead(in))
			}
			signals[key] = p.first + len(net.Luts)
			net.Luts = append(net.Luts, l)
		}
		return signals[key]
	}
	for _, x := range n.Nodes {
		if x.Op == gate.Reg {
			net.Regs = append(net.Regs, Reg{Init: x.A == 1, Next: look(x.Next)})
		}
	}
	for _, o := range n.Outs {
		net.Outs = append(net.Outs, look(o))
	}
	return net
}

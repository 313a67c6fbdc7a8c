package blast

import (
	"rungwork/api"
	"rungwork/check"
	"rungwork/gate"
	"rungwork/value"
)

// saw is the part of a block that keeps what it saw last; no program can ask for it.
const saw = "saw"

// maker makes a net, node by node.
type maker struct {
	net   *gate.Net
	nodes map[gate.Node]int // by what they are, so that no two are alike
	names map[string]name
	parts map[part][]int // what each is now: the nodes of its bits, the least first
	held  []kept
}

// name is how a name is declared, and which bit is the first of those that are given to it.
type name struct {
	decl  api.Decl
	given int
}

// part is what a name stands for, or (field is not empty) what one part of a block is.
type part struct {
	name, field string
}

// kept is a part that is kept from cycle to cycle, and the first of its registers.
type kept struct {
	part part
	reg  int
}

// declare notes how a name is declared. No node is made of it yet: of what nobody asks for none is needed.
func (m *maker) declare(d api.Decl) {
	m.names[d.Name] = name{decl: d, given: m.net.Given}
	if d.Way == api.In {
		m.net.Given += value.Width(d.Type)
		enough(m.net.Given)
	}
}

// kind is of which type a part is.
func (m *maker) kind(k part) int {
	d := m.names[k.name].decl
	switch k.field {
	case "":
		return d.Type
	case saw:
		return api.Bool
	}
	return check.Field(d.Type, k.field)
}

// read is what a part is now; one that was neither read nor set yet is what it was as the cycle began.
func (m *maker) read(k part) []int {
	bits, ok := m.parts[k]
	if !ok {
		bits = m.begun(k)
		m.parts[k] = bits
	}
	return bits
}

// begun is what a part is as a cycle begins: what is given, or what was kept.
func (m *maker) begun(k part) []int {
	n := m.names[k.name]
	if n.decl.Way == api.In && k.field == "" {
		return m.given(n)
	}
	return m.registers(k, n.decl.Init)
}

// given is what is given to a name.
func (m *maker) given(n name) []int {
	bits := make([]int, value.Width(n.decl.Type))
	for i := range bits {
		bits[i] = m.node(gate.Node{Op: gate.In, A: n.given + i})
	}
	return bits
}

// registers keep a part, which is a number at first.
func (m *maker) registers(k part, first int) []int {
	m.held = append(m.held, kept{part: k, reg: len(m.net.Nodes)})
	var bits []int
	for _, b := range value.Bits(m.kind(k), first) {
		x := gate.Node{Op: gate.Reg}
		if b {
			x.A = 1
		}
		bits = append(bits, m.add(x)) // though others may be alike now, they will not be with their Next
	}
	return bits
}

// set lets a part be something else, when a node is true. The new bits are not written into, so they may be another part's, too.
func (m *maker) set(k part, bits []int, when int) {
	if !m.is(when, gate.One) { // else what it was is not asked for, and perhaps never kept
		bits = m.choose(when, bits, m.read(k))
	}
	m.parts[k] = bits
}

// keep lets each register be, in the next cycle, what its part is at the end of this one.
func (m *maker) keep() {
	for _, h := range m.held {
		for i, b := range m.parts[h.part] {
			m.net.Nodes[h.reg+i].Next = b
		}
	}
}

// out lets what a name is at the end come out; one that was neither read nor set needs no registers to stay what it was.
func (m *maker) out(d api.Decl) {
	if d.Way != api.Out {
		return
	}
	bits, ok := m.parts[part{name: d.Name}]
	if !ok {
		bits = m.number(d.Type, d.Init)
	}
	m.net.Outs = append(m.net.Outs, bits...)
	enough(len(m.net.Outs))
}

// enough throws that there would be more of something than a net may have.
func enough(many int) {
	if many > api.MaxNodes {
		panic(api.ErrLimit)
	}
}

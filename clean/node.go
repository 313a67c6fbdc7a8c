package clean

import (
	"rungwork/gate"
)

// deep is through how many gates it is looked for what one of two tells of the other; each one more doubles the work, and finds hardly anything.
const deep = 3

// maker makes nodes; the first two are Zero and One, whose numbers are no and yes.
type maker struct {
	nodes []gate.Node
	found map[gate.Node]int // by what they are, so that no two are alike; a Reg's Next is the number that it had in the old net
}

// newMaker has made nothing yet but what is known.
func newMaker() *maker {
	m := &maker{found: map[gate.Node]int{}}
	m.node(gate.Node{Op: gate.Zero})
	m.node(gate.Node{Op: gate.One})
	return m
}

// node is the node of this kind: the one that there is, or a new one.
func (m *maker) node(x gate.Node) int {
	k, ok := m.found[x]
	if !ok {
		k = len(m.nodes)
		m.nodes = append(m.nodes, x)
		m.found[x] = k
	}
	return k
}

// two is a gate of two, always in one order, so that it is found the other way round, too.
func (m *maker) two(op, a, b int) int {
	return m.node(gate.Node{Op: op, A: min(a, b), B: max(a, b)})
}

// join is And, or Or, of two: of And it only matters what one is where the other is true, of Or where it is false.
func (m *maker) join(op, a, b int) int {
	if k, ok := m.free(op, a, b); ok {
		return k
	}
	if c := m.where(b, a, idle(op), deep); c != b {
		return m.join(op, a, c)
	}
	if c := m.where(a, b, idle(op), deep); c != a {
		return m.join(op, c, b)
	}
	return m.two(op, a, b)
}

// xor is the node that is true when they differ.
func (m *maker) xor(a, b int) int {
	if k, ok := m.free(gate.Xor, a, b); ok {
		return k
	}
	x, y := m.nodes[a], m.nodes[b]
	switch {
	case a == yes:
		return m.not(b)
	case b == yes:
		return m.not(a)
	case x.Op == gate.Not && y.Op == gate.Not:
		return m.xor(x.A, y.A)
	}
	return m.two(gate.Xor, a, b)
}

// not is the node that is true when another one is not.
func (m *maker) not(a int) int {
	if k, ok := m.other(a); ok {
		return k
	}
	return m.node(gate.Node{Op: gate.Not, A: a})
}

// where is what a node is wherever that one is no, or yes: Zero, One, or a node that it reads, as far as that is to be seen; else itself.
func (m *maker) where(node, that, is, far int) int {
	switch {
	case node == that:
		return is
	case m.opposite(node, that):
		return turned(is)
	case far == 0:
		return node
	}
	x, seen, ok := m.nodes[node], 0, false
	there := func(read int) int { return m.where(read, that, is, far-1) }
	switch x.Op {
	case gate.Not:
		seen, ok = m.other(there(x.A))
	case gate.And, gate.Or, gate.Xor:
		seen, ok = m.free(x.Op, there(x.A), there(x.B))
	}
	if !ok {
		return node
	}
	return seen
}

// free is what a gate of two is, if none must be made for it.
func (m *maker) free(op, a, b int) (int, bool) {
	full := turned(idle(op)) // of And and Or: what they are as soon as one is so
	switch {
	case a == idle(op):
		return b, true
	case b == idle(op):
		return a, true
	case m.opposite(a, b):
		return full, true
	case op == gate.Xor:
		return m.freeXor(a, b)
	case a == full, b == full:
		return full, true
	}
	return a, a == b
}

// freeXor is what the Xor of two is, if no gate must be made for it.
func (m *maker) freeXor(a, b int) (int, bool) {
	switch {
	case a == b:
		return no, true
	case a == yes:
		return m.other(b)
	case b == yes:
		return m.other(a)
	}
	return 0, false
}

// idle is what lets a gate of two be just what the other one is.
func idle(op int) int {
	if op == gate.And {
		return yes
	}
	return no
}

// other is a node's Not, if none must be made for it.
func (m *maker) other(a int) (int, bool) {
	if a <= yes {
		return turned(a), true
	}
	x := m.nodes[a]
	return x.A, x.Op == gate.Not
}

// opposite says whether one of two is the other's Not.
func (m *maker) opposite(a, b int) bool {
	x, y := m.nodes[a], m.nodes[b]
	return x.Op == gate.Not && x.A == b || y.Op == gate.Not && y.A == a
}

package blast

import (
	"rungwork/gate"
)

// zero is the node that is false.
func (m *maker) zero() int { return m.node(gate.Node{Op: gate.Zero}) }

// one is the node that is true.
func (m *maker) one() int { return m.node(gate.Node{Op: gate.One}) }

// and is the node that is true when both are.
func (m *maker) and(a, b int) int {
	switch {
	case a == b, m.is(a, gate.Zero), m.is(b, gate.One):
		return a
	case m.is(b, gate.Zero), m.is(a, gate.One):
		return b
	case m.opposite(a, b):
		return m.zero()
	}
	return m.both(gate.And, a, b)
}

// or is the node that is true when one is, or both are.
func (m *maker) or(a, b int) int {
	switch {
	case a == b, m.is(a, gate.One), m.is(b, gate.Zero):
		return a
	case m.is(b, gate.One), m.is(a, gate.Zero):
		return b
	case m.opposite(a, b):
		return m.one()
	}
	return m.both(gate.Or, a, b)
}

// xor is the node that is true when they differ.
func (m *maker) xor(a, b int) int {
	switch {
	case a == b:
		return m.zero()
	case m.is(a, gate.Zero):
		return b
	case m.is(b, gate.Zero):
		return a
	case m.is(a, gate.One):
		return m.not(b)
	case m.is(b, gate.One):
		return m.not(a)
	case m.opposite(a, b):
		return m.one()
	}
	return m.both(gate.Xor, a, b)
}

// not is the node that is true when another one is not.
func (m *maker) not(a int) int {
	switch {
	case m.is(a, gate.Zero):
		return m.one()
	case m.is(a, gate.One):
		return m.zero()
	case m.is(a, gate.Not):
		return m.net.Nodes[a].A
	}
	return m.node(gate.Node{Op: gate.Not, A: a})
}

// is says whether a node is of an op.
func (m *maker) is(a, op int) bool { return m.net.Nodes[a].Op == op }

// opposite says whether one of two is the other's Not.
func (m *maker) opposite(a, b int) bool {
	return m.is(a, gate.Not) && m.net.Nodes[a].A == b || m.is(b, gate.Not) && m.net.Nodes[b].A == a
}

// both is a gate of two that may stand the other way round, too: always in one order, so that it is found again.
func (m *maker) both(op, a, b int) int {
	return m.node(gate.Node{Op: op, A: min(a, b), B: max(a, b)})
}

// node is the node of this kind: the one that there is, or a new one.
func (m *maker) node(x gate.Node) int {
	k, ok := m.nodes[x]
	if !ok {
		k = m.add(x)
		m.nodes[x] = k
	}
	return k
}

// add makes a node, though another may be alike.
func (m *maker) add(x gate.Node) int {
	enough(len(m.net.Nodes) + 1)
	m.net.Nodes = append(m.net.Nodes, x)
	return len(m.net.Nodes) - 1
}

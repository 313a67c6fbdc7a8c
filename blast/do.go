package blast

import (
	"rungwork/api"
	"rungwork/gate"
)

// mostCounted is how far a counter counts.
const mostCounted = 255

// program makes the net of a program of which nothing was found, so that all its statements name, and all their parts, are there.
func (m *maker) program(p api.Program) {
	for _, d := range p.Decls {
		m.declare(d)
	}
	m.do(p.Body, m.one())
	for _, d := range p.Decls {
		m.out(d)
	}
	m.keep()
}

// do makes what statements do when a node is true. All ways of an If are made one behind the other: each sets something only when it is gone, and then no other one is.
func (m *maker) do(body []api.Stmt, when int) {
	if m.is(when, gate.Zero) {
		return
	}
	for _, s := range body {
		switch s.Code {
		case api.Set:
			m.set(part{name: s.Name}, m.bits(s.Value), when)
		case api.Call:
			m.call(s, when)
		case api.If:
			m.ways(s, when)
		}
	}
}

// ways makes both ways of an If.
func (m *maker) ways(s api.Stmt, when int) {
	holds := m.bit(s.Value)
	m.do(s.Then, m.and(when, holds))
	if len(s.Else) > 0 {
		m.do(s.Else, m.and(when, m.not(holds)))
	}
}

// call makes a call of a block; what it is called with is told ahead of what the call changes.
func (m *maker) call(s api.Stmt, when int) {
	a := m.bit(s.Args[0])
	switch m.kind(part{name: s.Name}) {
	case api.Timer:
		m.timer(s.Name, a, m.number(api.Byte, s.N), when)
	case api.Counter:
		m.counter(s.Name, a, m.bit(s.Args[1]), m.number(api.Byte, s.N), when)
	case api.Edge:
		m.edge(s.Name, a, when)
	}
}

// timer makes a timer's call.
func (m *maker) timer(block string, a int, most []int, when int) {
	counted := part{name: block, field: "et"}
	was := m.read(counted)
	now := m.only(a, m.more(was, m.less(was, most)))
	m.set(counted, now, when)
	m.set(part{name: block, field: "q"}, []int{m.and(a, m.not(m.less(now, most)))}, when)
}

// counter makes a counter's call.
func (m *maker) counter(block string, up, again int, most []int, when int) {
	counted, last := part{name: block, field: "cv"}, part{name: block, field: saw}
	was := m.read(counted)
	room := m.differ(was, m.number(api.Byte, mostCounted))
	now := m.only(m.not(again), m.more(was, m.and(m.begins(last, up), room)))
	m.set(counted, now, when)
	m.set(last, []int{up}, when)
	m.set(part{name: block, field: "q"}, []int{m.not(m.less(now, most))}, when)
}

// edge makes an edge's call.
func (m *maker) edge(block string, a, when int) {
	last := part{name: block, field: saw}
	m.set(part{name: block, field: "q"}, []int{m.begins(last, a)}, when)
	m.set(last, []int{a}, when)
}

// begins is whether a node is true that was not when the block saw it last.
func (m *maker) begins(last part, a int) int {
	return m.and(a, m.not(m.read(last)[0]))
}

// bit is the node of an expression of a bit.
func (m *maker) bit(e *api.Expr) int { return m.bits(e)[0] }

// bits are the nodes of an expression.
func (m *maker) bits(e *api.Expr) []int {
	switch e.Code {
	case api.Num:
		return m.number(e.Type, e.N)
	case api.Name:
		return m.read(part{name: e.Name})
	case api.Field:
		return m.read(part{name: e.Name, field: e.Field})
	case api.Not:
		return m.turned(m.bits(e.Left))
	case api.Bin:
		left, right := m.bits(e.Left), m.bits(e.Right)
		return m.two(e.Op, left, right)
	}
	return nil
}

package ladder

import "rungwork/api"

// maker makes what a rung does; all of it begins at the rung's place.
type maker struct {
	at int
}

// rung is the statement of a rung.
func (m maker) rung(r Rung) api.Stmt {
	x := m.cells(r.Cells)
	switch r.Kind {
	case Turned:
		return m.set(r.Name, m.not(x))
	case Latch:
		return m.when(x, m.set(r.Name, m.bit(1)))
	case Unlatch:
		return m.when(x, m.set(r.Name, m.bit(0)))
	}
	return m.set(r.Name, x)
}

// cells is when power comes through cells behind one another.
func (m maker) cells(l []Cell) *api.Expr {
	if len(l) == 0 {
		return m.bit(1)
	}
	return joined(m, "and", l, m.cell)
}

// cell is when power comes through a contact, or through one of the ways.
func (m maker) cell(c Cell) *api.Expr {
	if len(c.Ways) > 0 {
		return joined(m, "or", c.Ways, m.cells)
	}
	x := &api.Expr{Code: api.Name, At: m.at, Name: c.Name}
	if c.Not {
		return m.not(x)
	}
	return x
}

// joined puts what is made of a list (of one at least) together, from the left.
func joined[T any](m maker, op string, l []T, made func(T) *api.Expr) *api.Expr {
	x := made(l[0])
	for _, more := range l[1:] {
		x = &api.Expr{Code: api.Bin, At: m.at, Op: op, Left: x, Right: made(more)}
	}
	return x
}

// not is not of an expression.
func (m maker) not(x *api.Expr) *api.Expr {
	return &api.Expr{Code: api.Not, At: m.at, Left: x}
}

// bit is true (1), or false (0).
func (m maker) bit(n int) *api.Expr {
	return &api.Expr{Code: api.Num, At: m.at, N: n, Type: api.Bool}
}

// set sets a name to an expression.
func (m maker) set(name string, x *api.Expr) api.Stmt {
	return api.Stmt{Code: api.Set, At: m.at, Name: name, Value: x}
}

// when does a statement, if an expression holds.
func (m maker) when(x *api.Expr, then api.Stmt) api.Stmt {
	return api.Stmt{Code: api.If, At: m.at, Value: x, Then: []api.Stmt{then}}
}

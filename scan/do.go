package scan

import (
	"rungwork/api"
	"rungwork/value"
)

// do does statements, one behind the other. Check found nothing in them, so that all they name, and all their parts, are there.
func (x *Plant) do(body []api.Stmt) {
	for _, s := range body {
		switch s.Code {
		case api.Set:
			x.set(s.Name, x.number(s.Value).n)
		case api.Call:
			x.call(s)
		case api.If:
			if x.holds(s.Value) {
				x.do(s.Then)
			} else {
				x.do(s.Else)
			}
		}
	}
}

// set lets a name be a number of its own type.
func (x *Plant) set(name string, n int) {
	x.values[name] = typed{kind: x.values[name].kind, n: n}
}

// call calls a block; what it is called with may ask the block itself, and is told what that was ahead of the call.
func (x *Plant) call(s api.Stmt) {
	b := x.blocks[s.Name]
	a := x.holds(s.Args[0])
	switch b.kind {
	case api.Timer:
		b = b.timer(a, s.N)
	case api.Counter:
		b = b.counter(a, x.holds(s.Args[1]), s.N)
	case api.Edge:
		b = b.edge(a)
	}
	x.blocks[s.Name] = b
}

// holds says whether an expression of a bit is true.
func (x *Plant) holds(e *api.Expr) bool { return x.number(e).n != 0 }

// number is what an expression comes to.
func (x *Plant) number(e *api.Expr) typed {
	switch e.Code {
	case api.Num:
		return typed{kind: e.Type, n: e.N}
	case api.Name:
		return x.values[e.Name]
	case api.Field:
		return x.blocks[e.Name].field(e.Field)
	case api.Not:
		l := x.number(e.Left)
		return typed{kind: l.kind, n: value.Not(l.kind, l.n)}
	case api.Bin:
		l, r := x.number(e.Left), x.number(e.Right)
		return typed{kind: value.Result(e.Op, l.kind, r.kind), n: value.Two(e.Op, l.kind, l.n, r.n)}
	}
	return typed{}
}

package check

import (
	"rungwork/api"
	"rungwork/value"
)

// looker goes through statements and throws the first thing that is wrong.
type looker struct {
	find func(name string) (d api.Decl, ok bool)
}

// caught does something; what was found wrong on the way, and thrown, is its error.
func caught(do func()) (err error) {
	defer func() {
		thrown := recover()
		if thrown == nil {
			return
		}
		at, ok := thrown.(*api.At)
		if !ok {
			panic(thrown) // no fault of the program that is looked at, so none may be made of it
		}
		err = at
	}()
	do()
	return nil
}

// throw ends the look with an error at a place.
func throw(e api.Errno, place int) {
	panic(&api.At{Err: e, Place: place})
}

// finder makes a look for names among declarations, none of which may be called as one ahead.
func finder(decls []api.Decl) func(name string) (d api.Decl, ok bool) {
	places := map[string]int{}
	for i, d := range decls {
		if _, twice := places[d.Name]; twice {
			throw(api.ErrTwice, i)
		}
		places[d.Name] = i
	}
	return func(name string) (d api.Decl, ok bool) {
		i, ok := places[name]
		if !ok {
			return api.Decl{}, false
		}
		return decls[i], true
	}
}

// decl is what a name, that stands at a place, is declared as.
func (l looker) decl(name string, place int) api.Decl {
	d, ok := l.find(name)
	if !ok {
		throw(api.ErrMissing, place)
	}
	return d
}

// stmts looks at statements, one behind the other.
func (l looker) stmts(body []api.Stmt) {
	for _, s := range body {
		switch s.Code {
		case api.Set:
			l.set(s)
		case api.Call:
			l.call(s)
		case api.If:
			l.want(s, s.Value, api.Bool)
			l.stmts(s.Then)
			l.stmts(s.Else)
		}
	}
}

// set looks at a Set: at what is set, then at the value.
func (l looker) set(s api.Stmt) {
	d := l.decl(s.Name, s.At)
	if value.Width(d.Type) == 0 {
		throw(api.ErrArg, s.At)
	}
	if d.Way == api.In {
		throw(api.ErrState, s.At)
	}
	l.want(s, s.Value, d.Type)
}

// call looks at a Call: at what is called, and with how many, then at these.
func (l looker) call(s api.Stmt) {
	d := l.decl(s.Name, s.At)
	many, number := Args(d.Type)
	if many == 0 {
		throw(api.ErrArg, s.At)
	}
	if len(s.Args) != many || s.N != 0 && !number {
		throw(api.ErrRange, s.At)
	}
	for _, x := range s.Args {
		l.want(s, x, api.Bool)
	}
}

// want looks at an expression of a statement, which must be of a type.
func (l looker) want(s api.Stmt, x *api.Expr, kind int) {
	if x == nil {
		throw(api.ErrArg, s.At) // what is not there has no place of its own
	}
	if l.kind(x) != kind {
		throw(api.ErrArg, x.At)
	}
}

// kind is of which type an expression is, if nothing in it is wrong (0: there is none).
func (l looker) kind(x *api.Expr) int {
	if x == nil {
		return 0
	}
	switch x.Code {
	case api.Num:
		return x.Type
	case api.Name:
		return l.name(x)
	case api.Field:
		return l.field(x)
	case api.Not:
		return l.kind(x.Left)
	case api.Bin:
		return l.two(x)
	}
	return 0
}

// name is of which type a Name is.
func (l looker) name(x *api.Expr) int {
	d := l.decl(x.Name, x.At)
	if value.Width(d.Type) == 0 {
		throw(api.ErrArg, x.At)
	}
	return d.Type
}

// field is of which type a Field is.
func (l looker) field(x *api.Expr) int {
	kind := Field(l.decl(x.Name, x.At).Type, x.Field)
	if kind == 0 {
		throw(api.ErrName, x.At)
	}
	return kind
}

// two is of which type a mark of two is; both its sides are looked at ahead of it.
func (l looker) two(x *api.Expr) int {
	left, right := l.kind(x.Left), l.kind(x.Right)
	kind := value.Result(x.Op, left, right)
	if kind == 0 {
		throw(api.ErrArg, x.At)
	}
	return kind
}

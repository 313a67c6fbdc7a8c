package tree

import "rungwork/api"

// Levels of marks of two: what is tighter is put together first.
const (
	loosest = iota + 1
	xors
	ands
	compares
	sums
	single // of what needs no ( and ) anywhere
)

// mostByte is the greatest BYTE.
const mostByte = 255

// level is that of a mark of two (0: it is none).
func level(text string) int {
	switch text {
	case "or":
		return loosest
	case "xor":
		return xors
	case "and":
		return ands
	case "=", "<>", "<", "<=", ">", ">=":
		return compares
	case "+", "-":
		return sums
	}
	return 0
}

// expr reads an EXPR that lies in no not and no ( and ).
func (r *reader) expr() *api.Expr { return r.two(loosest, 0) }

// two reads what marks of a level put together, from the left.
func (r *reader) two(of, deep int) *api.Expr {
	if of == single {
		return r.one(deep)
	}
	at := r.now().at
	x := r.two(of+1, deep)
	for level(r.now().text) == of {
		op := r.take().text
		x = &api.Expr{Code: api.Bin, At: at, Op: op, Left: x, Right: r.two(of+1, deep)}
	}
	return x
}

// one reads a ONE that lies in so many of not and ( and ).
func (r *reader) one(deep int) *api.Expr {
	if deep > api.MaxDepth {
		panic(r.wrong(api.ErrLimit))
	}
	at := r.now().at
	switch {
	case r.took("not"):
		return &api.Expr{Code: api.Not, At: at, Left: r.one(deep + 1)}
	case r.took("("):
		x := r.two(loosest, deep+1)
		r.want(")")
		return x
	case r.took("true"):
		return &api.Expr{Code: api.Num, At: at, N: 1, Type: api.Bool}
	case r.took("false"):
		return &api.Expr{Code: api.Num, At: at, Type: api.Bool}
	case r.now().kind == number:
		return &api.Expr{Code: api.Num, At: at, N: r.byte(), Type: api.Byte}
	}
	x := &api.Expr{Code: api.Name, At: at, Name: r.name()}
	if r.took(".") {
		x.Code, x.Field = api.Field, r.name()
	}
	return x
}

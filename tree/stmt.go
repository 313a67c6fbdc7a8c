package tree

import "rungwork/api"

// stmts reads STMTs, as many as there are, that lie in so many if and elsif.
func (r *reader) stmts(deep int) []api.Stmt {
	var l []api.Stmt
	for {
		switch {
		case r.now().text == "if":
			l = append(l, r.branch(deep))
		case isName(r.now()):
			l = append(l, r.act())
		default:
			return l
		}
	}
}

// branch reads an if, or an elsif, that lies in so many others, and all that belongs to it.
func (r *reader) branch(deep int) api.Stmt {
	s := api.Stmt{Code: api.If, At: r.take().at}
	if deep >= api.MaxDepth {
		panic(r.wrong(api.ErrLimit))
	}
	s.Value = r.expr()
	r.want("then")
	s.Then = r.stmts(deep + 1)
	if r.now().text == "elsif" {
		s.Else = []api.Stmt{r.branch(deep + 1)}
		return s // what is behind an elsif, with the end, was its own
	}
	if r.took("else") {
		s.Else = r.stmts(deep + 1)
	}
	r.want("end")
	r.want(";")
	return s
}

// act reads a statement that begins with a name: what is set, or called.
func (r *reader) act() api.Stmt {
	s := api.Stmt{At: r.now().at, Name: r.name()}
	if r.took(":=") {
		s.Code, s.Value = api.Set, r.expr()
	} else {
		r.want("(")
		s.Code = api.Call
		s.Args, s.N = r.args()
		r.want(")")
	}
	r.want(";")
	return s
}

// args reads what a call has between ( and ).
func (r *reader) args() (l []*api.Expr, n int) {
	for {
		// A number is never the last token, as the text's end is.
		if r.now().kind == number && r.list[r.next+1].text == ")" {
			return l, r.byte()
		}
		l = append(l, r.expr())
		if !r.took(",") {
			return l, 0
		}
	}
}

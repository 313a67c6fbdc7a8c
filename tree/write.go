package tree

import (
	"strconv"
	"strings"

	"rungwork/api"
)

// indent is how much further right the statements of an if stand.
const indent = "  "

// declHead is a declaration, up to its type ("": there is none such).
func declHead(d api.Decl) string {
	if d.Type < api.Bool || d.Type > api.Edge {
		return ""
	}
	if blocks()[types[d.Type]] != 0 {
		if d.Way != api.Var {
			return ""
		}
		return types[d.Type] + " " + d.Name
	}
	if d.Way < api.In || d.Way > api.Var {
		return ""
	}
	return ways[d.Way] + " " + d.Name + ": " + types[d.Type]
}

// valueText is a value of a type.
func valueText(kind, n int) string {
	if kind != api.Bool {
		return strconv.Itoa(n)
	}
	if n != 0 {
		return "true"
	}
	return "false"
}

// writeExpr writes an expression where no mark of two below a level may stand without ( and ).
func writeExpr(b *strings.Builder, x *api.Expr, least int) {
	if x == nil {
		return
	}
	switch x.Code {
	case api.Num:
		b.WriteString(valueText(x.Type, x.N))
	case api.Name:
		b.WriteString(x.Name)
	case api.Field:
		b.WriteString(x.Name + "." + x.Field)
	case api.Not:
		b.WriteString("not ")
		writeExpr(b, x.Left, single)
	case api.Bin:
		writeTwo(b, x, least)
	}
}

// writeTwo writes a mark of two and what it puts together.
func writeTwo(b *strings.Builder, x *api.Expr, least int) {
	own := level(x.Op)
	if own < least {
		b.WriteString("(")
	}
	writeExpr(b, x.Left, own)
	b.WriteString(" " + x.Op + " ")
	writeExpr(b, x.Right, own+1) // one more: without ( and ) the same level would be read from the left
	if own < least {
		b.WriteString(")")
	}
}

// writeStmts writes statements, so far from the left.
func writeStmts(b *strings.Builder, l []api.Stmt, left string) {
	for _, s := range l {
		b.WriteString(left)
		switch s.Code {
		case api.Set:
			b.WriteString(s.Name + " := " + Text(s.Value) + ";\n")
		case api.Call:
			writeCall(b, s)
		case api.If:
			writeIf(b, s, left)
		}
	}
}

// writeCall writes a call. Its number is always told: without it a number that is its last Arg would be read as it.
func writeCall(b *strings.Builder, s api.Stmt) {
	b.WriteString(s.Name + "(")
	for _, x := range s.Args {
		b.WriteString(Text(x) + ", ")
	}
	b.WriteString(strconv.Itoa(s.N) + ");\n")
}

// writeIf writes an if and what lies in it.
func writeIf(b *strings.Builder, s api.Stmt, left string) {
	b.WriteString("if " + Text(s.Value) + " then\n")
	writeStmts(b, s.Then, left+indent)
	if len(s.Else) > 0 {
		b.WriteString(left + "else\n")
		writeStmts(b, s.Else, left+indent)
	}
	b.WriteString(left + "end;\n")
}

package tree

import "rungwork/api"

// The words of ways, and of types, by their numbers.
var (
	ways  = [...]string{api.In: "in", api.Out: "out", api.Var: "var"}
	types = [...]string{api.Bool: "bool", api.Byte: "byte", api.Timer: "timer", api.Counter: "counter", api.Edge: "edge"}
)

// blocks are the types of blocks, by their words.
func blocks() map[string]int {
	return map[string]int{types[api.Timer]: api.Timer, types[api.Counter]: api.Counter, types[api.Edge]: api.Edge}
}

// wayOf is the way that a word tells (0: none).
func wayOf(text string) int {
	for i, w := range ways {
		if w == text {
			return i
		}
	}
	return 0
}

// decls reads DECLs, as many as there are.
func (r *reader) decls() []api.Decl {
	var l []api.Decl
	for wayOf(r.now().text) != 0 || blocks()[r.now().text] != 0 {
		first := r.wrong(api.ErrLimit)
		d := r.decl()
		if len(l) == api.MaxDecls {
			panic(first)
		}
		l = append(l, d)
	}
	return l
}

// decl reads a DECL, of which the first word is known to be one.
func (r *reader) decl() api.Decl {
	t := r.take()
	d := api.Decl{Way: wayOf(t.text), Type: blocks()[t.text]}
	d.Name = r.name()
	if d.Type != 0 {
		d.Way = api.Var
	} else {
		r.want(":")
		d.Type = r.kind()
		if d.Way != api.In {
			d.Init = r.first(d.Type)
		}
	}
	r.want(";")
	return d
}

// kind reads a TYPE.
func (r *reader) kind() int {
	if r.took(types[api.Bool]) {
		return api.Bool
	}
	r.want(types[api.Byte])
	return api.Byte
}

// first reads a FIRST of a type.
func (r *reader) first(kind int) int {
	if !r.took("=") {
		return 0
	}
	if kind == api.Byte {
		return r.byte()
	}
	if r.took("true") {
		return 1
	}
	r.want("false")
	return 0
}

package tree

import (
	"strings"

	"rungwork/api"
)

// reader goes through the tokens of a text; the last of them is its end, which is never passed.
type reader struct {
	list []token
	next int
}

// whole reads all of a text; what was found wrong on the way, and thrown, is its error.
func whole[T any](s string, read func(r *reader) T) (got T, err error) {
	defer func() {
		thrown := recover()
		if thrown == nil {
			return
		}
		at, ok := thrown.(*api.At)
		if !ok {
			panic(thrown) // no fault of the text, so none may be made of it
		}
		err = at
	}()
	r := &reader{list: tokens(s)}
	all := read(r)
	if r.now().kind != end {
		panic(r.wrong(api.ErrForm))
	}
	return all, nil
}

// now is the token that is read next.
func (r *reader) now() token { return r.list[r.next] }

// wrong is an error at the token that is read next.
func (r *reader) wrong(e api.Errno) *api.At {
	return &api.At{Err: e, Place: r.now().at}
}

// take reads a token.
func (r *reader) take() token {
	t := r.now()
	r.next++
	return t
}

// took reads a mark or a kept word, if it stands there.
func (r *reader) took(text string) bool {
	if r.now().text != text {
		return false
	}
	r.next++
	return true
}

// want reads a mark or a kept word that must stand there.
func (r *reader) want(text string) {
	if !r.took(text) {
		panic(r.wrong(api.ErrForm))
	}
}

// name reads a NAME.
func (r *reader) name() string {
	if !isName(r.now()) {
		panic(r.wrong(api.ErrForm))
	}
	if len(r.now().text) > api.MaxName {
		panic(r.wrong(api.ErrLimit))
	}
	return r.take().text
}

// byte reads a BYTE.
func (r *reader) byte() int {
	if r.now().kind != number {
		panic(r.wrong(api.ErrForm))
	}
	n := 0
	for _, c := range []byte(strings.TrimLeft(r.now().text, "0")) {
		n = n*10 + int(c-'0')
		if n > mostByte {
			panic(r.wrong(api.ErrLimit))
		}
	}
	r.next++
	return n
}

// program reads a PROGRAM.
func (r *reader) program() api.Program {
	var p api.Program
	p.Decls = r.decls()
	r.want("begin")
	p.Body = r.stmts(0)
	r.want("end")
	return p
}

package desk

import (
	"strconv"

	"rungwork/api"
)

// caught does something; what was found wrong on the way, and thrown, is answered instead.
func caught(do func() string) (said string) {
	defer func() {
		thrown := recover()
		if thrown == nil {
			return
		}
		e, ok := thrown.(api.Errno)
		if !ok {
			panic(thrown) // no fault of the line, so none may be made of it
		}
		said = wrong(e)
	}()
	return do()
}

// wrong is how an error is answered.
func wrong(e api.Errno) string { return "error " + strconv.Itoa(int(e)) }

// want throws an error, unless something holds.
func want(holds bool, e api.Errno) {
	if !holds {
		panic(e)
	}
}

// right is what came of a call that found nothing wrong; what it found is thrown.
func right[T any](got T, err error) T {
	want(err == nil, api.Tell(err))
	return got
}

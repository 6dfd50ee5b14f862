package ask

import "hushhouse/api"

// wrong is what is thrown from within a question, however deep in it something is wrong.
type wrong struct{ err api.Errno }

// caught is what comes of a call, or what it throws.
func caught[T any](call func() T) (out T, err api.Errno) {
	defer func() {
		switch x := recover().(type) {
		case nil:
		case wrong:
			err = x.err
		default:
			panic(x) // a fault of the program is not to look like an answer
		}
	}()
	return call(), api.OK
}

// check throws what is wrong.
func check(err api.Errno) { must(err == api.OK, err) }

// must throws an error, if something isn't so.
func must(so bool, err api.Errno) {
	if !so {
		panic(wrong{err})
	}
}

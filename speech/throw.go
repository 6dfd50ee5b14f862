package speech

import "hushhouse/api"

// wrong is what is thrown from within a text or a question, however deep in it something is wrong.
type wrong struct{ api.Fault }

// caught is what comes of a call, or what it throws.
func caught[T any](call func() T) (out T, fault api.Fault) {
	defer func() {
		switch x := recover().(type) {
		case nil:
		case wrong:
			fault = x.Fault
		default:
			panic(x) // a fault of the program is not to look like one of a text
		}
	}()
	return call(), api.Fault{}
}

// must throws what is wrong, and at which byte, if something isn't so.
func must(so bool, err api.Errno, at int) {
	if !so {
		panic(wrong{api.Fault{Err: err, At: at}})
	}
}

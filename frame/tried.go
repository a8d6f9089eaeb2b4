package frame

import "escritoire/api"

// stopped is what a step panics with that ends early, so that those behind it needn't ask how it went.
type stopped struct{ why api.Errno }

// need gives up for a reason, unless something holds.
func need(holds bool, why api.Errno) {
	if !holds {
		panic(stopped{why})
	}
}

// pass gives up, if there is an error.
func pass(err api.Errno) { need(err == api.OK, err) }

// got is what a call answered, if it has no error.
func got[T any](thing T, err api.Errno) T {
	pass(err)
	return thing
}

// tried is what steps come to, or why one of them gave up.
func tried[T any](steps func() T) (thing T, err api.Errno) {
	defer func() {
		switch end := recover().(type) {
		case nil:
		case stopped:
			err = end.why
		default:
			panic(end)
		}
	}()
	return steps(), api.OK
}

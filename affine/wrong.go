package affine

import "pointillist/api"

// begin does the work till something goes wrong in it: then it tells that, and nothing else, since the work has answered nothing.
// Only must panics in it, so that whatever is caught is an error's number.
func begin[T any](work func() T) (answer T, e api.Errno) {
	defer func() {
		if wrong, ok := recover().(api.Errno); ok {
			e = wrong
		}
	}()
	return work(), api.OK
}

// must gives the work up with the error, if what has to hold doesn't.
func must(holds bool, e api.Errno) {
	if !holds {
		panic(e)
	}
}

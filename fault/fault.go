// Package fault leaves a call from its midst by an error's number, and tells that number where the call ends.
package fault

import "marchpast/api"

// Leave asks for errors in the order in which a promise names them, and leaves by the first one; it must lie inside Caught.
func Leave(errs ...api.Errno) {
	for _, e := range errs {
		if e != api.OK {
			panic(e)
		}
	}
}

// Got lets calls that may have errors stand inside each other: it is v, or leaves by e.
func Got[T any](v T, e api.Errno) T {
	Leave(e)
	return v
}

// Caught is what f answers, or the error by which f was left, and then the zero value.
// Whatever else f panics with is a fault of the program, and is not hidden.
func Caught[T any](f func() T) (v T, errno api.Errno) {
	defer func() {
		if r := recover(); r != nil {
			errno = r.(api.Errno)
		}
	}()
	return f(), api.OK
}

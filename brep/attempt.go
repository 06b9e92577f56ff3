package brep

import (
	"errors"

	"workpiece/api"
)

// errRefused is what a calculation panics with if it has no result.
var errRefused = errors.New("brep: refused")

// attempt returns what calculate returns, or an error if it panics.
func attempt[T any](calculate func() T) (result T, err api.Errno) {
	defer func() { err = codeOf(recover()) }()
	return calculate(), api.OK
}

// codeOf returns the error code for the value that recover returns.
func codeOf(cause any) api.Errno {
	if cause == nil {
		return api.OK
	}
	if err, ok := cause.(error); ok && errors.Is(err, errRefused) {
		return api.ErrBrep
	}
	// A mistake of the program has a code of its own, so that it is not taken for
	// a number that is too large.
	return api.ErrArg
}

// refuseIf ends the calculation without a result if condition holds.
func refuseIf(condition bool) {
	if condition {
		panic(errRefused)
	}
}

// must returns value, or ends the calculation without a result if err says that
// there is none.
func must[T any](value T, err api.Errno) T {
	refuseIf(err != api.OK)
	return value
}

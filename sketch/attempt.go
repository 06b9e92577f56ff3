package sketch

import "workpiece/api"

// attempt returns what calculate returns, or an error if it panics.
func attempt[T any](calculate func() T) (result T, err api.Errno) {
	defer func() {
		switch cause := recover().(type) {
		case nil:
		case api.Errno:
			err = cause
		default:
			// A mistake of the program has a code of its own, so that it is not
			// taken for a sketch that is not valid.
			err = api.ErrArg
		}
	}()
	return calculate(), api.OK
}

// refuseIf ends the calculation without a result if condition holds.
func refuseIf(condition bool) {
	if condition {
		panic(api.ErrSketch)
	}
}

// must returns value, or ends the calculation without a result if err says that
// there is none.
func must[T any](value T, err api.Errno) T {
	refuseIf(err != api.OK)
	return value
}

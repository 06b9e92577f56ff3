package tower

import "workpiece/api"

// attempt returns what calculate returns for the field of t, or an error if t is
// not valid, or calculate panics.
func attempt[T any](t api.Tower, calculate func(f *field) T) (result T, err api.Errno) {
	defer func() {
		switch cause := recover().(type) {
		case nil:
		case api.Errno:
			err = cause
		default:
			// A mistake of the program has a code of its own, so that it is not
			// taken for a number that is too large.
			err = api.ErrArg
		}
	}()
	return calculate(fieldOf(t)), api.OK
}

// refuseIf ends the calculation without a result if condition holds.
func refuseIf(condition bool) {
	if condition {
		panic(api.ErrTower)
	}
}

// must returns value, or ends the calculation without a result if err says that
// there is none.
func must[T any](value T, err api.Errno) T {
	refuseIf(err != api.OK)
	return value
}

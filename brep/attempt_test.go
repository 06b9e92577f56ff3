package brep

import (
	"errors"
	"testing"

	"workpiece/api"
)

// P16.1: a calculation that panics has no result, and does not stop the program.
func TestAttempt(t *testing.T) {
	for _, c := range []struct {
		cause any
		want  api.Errno
	}{{errRefused, api.ErrBrep}, {errors.Join(errRefused), api.ErrBrep}, {errors.New("another one"), api.ErrArg}, {"text", api.ErrArg}} {
		if got, err := attempt(func() int { panic(c.cause) }); got != 0 || err != c.want {
			t.Errorf("%v: %d, %d", c.cause, got, err)
		}
	}
	if got, err := attempt(func() int { return 7 }); got != 7 || err != api.OK {
		t.Errorf("%d, %d", got, err)
	}
}

package sample

import (
	"strconv"

	"workpiece/api"
)

// Outcome returns the text of a result, or that of an error if the result is zero
// as it must be with an error.
func Outcome(text string, isZero bool, err api.Errno) string {
	switch {
	case err == api.OK:
		return text
	case isZero:
		return Failure(err)
	}
	return "with " + Failure(err) + ": " + text
}

// Failure returns the outcome of a call that returns an error.
func Failure(err api.Errno) string { return "error " + strconv.Itoa(int(err)) }

package enclosure

import (
	"workpiece/api"
	"workpiece/integer"
	"workpiece/rational"
)

// atMost reports whether a is at most b. One of them must be valid; it is false
// if the other one is not.
func atMost(a api.Ratio, b api.Ratio) bool { return a == b || rational.Compare(a, b) < 0 }

// first returns the value that stands before all others, by an order that also
// says so of equal ones.
func first[T any](before func(a T, b T) bool, value T, others ...T) T {
	for _, other := range others {
		if before(other, value) {
			value = other
		}
	}
	return value
}

// least returns the least one of l, which must not be empty.
func least(l ...api.Ratio) api.Ratio { return first(atMost, l[0], l[1:]...) }

// greatest returns the greatest one of l, which must not be empty.
func greatest(l ...api.Ratio) api.Ratio {
	return first(func(a api.Ratio, b api.Ratio) bool { return atMost(b, a) }, l[0], l[1:]...)
}

// combined returns the interval from the least to the greatest one of what operate
// returns for an end of a and an end of b.
func combined(operate func(api.Ratio, api.Ratio) (api.Ratio, api.Errno), a api.Interval, b api.Interval) api.Interval {
	var l []api.Ratio
	for _, x := range ends(a) {
		for _, y := range ends(b) {
			l = append(l, must(operate(x, y)))
		}
	}
	return api.Interval{Lo: least(l...), Hi: greatest(l...)}
}

// ends returns the ends of x, once if they are equal.
func ends(x api.Interval) []api.Ratio {
	if x.Lo == x.Hi {
		return []api.Ratio{x.Lo}
	}
	return []api.Ratio{x.Lo, x.Hi}
}

// root returns the greatest integer whose square, divided by that of units, is at
// most r, and reports whether it is r. There is none if r is negative.
func root(r api.Ratio, units string) (string, bool) {
	scaled := must(integer.Mul(must(integer.Mul(r.Num, units)), units))
	// A Den is not 0, and makes nothing longer.
	square, rest, _ := integer.Div(scaled, r.Den)
	out := must(integer.Root(square))
	return out, rest == "0" && must(integer.Mul(out, out)) == square
}

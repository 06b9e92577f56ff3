package tower

import (
	"slices"

	"workpiece/api"
	"workpiece/rational"
)

// An element is a number of a field, given by its coefficients. Those of the lower
// field that it consists of are its halves.
type element []api.Ratio

var (
	zero = api.Ratio{Num: "0", Den: "1"}
	one  = api.Ratio{Num: "1", Den: "1"}
)

// zeros returns the element with so many coefficients, all of which are 0.
func zeros(size int) element { return slices.Repeat(element{zero}, size) }

// isZero reports whether all coefficients of x are 0. The value of another element
// may be 0 too.
func isZero(x element) bool {
	return !slices.ContainsFunc(x, func(r api.Ratio) bool { return r != zero })
}

func halves(x element) (element, element) {
	middle := len(x) / 2
	return x[:middle], x[middle:]
}

// plus returns the sum of x and y.
func plus(x element, y element) element { return pairwise(rational.Add, x, y) }

// minus returns x minus y.
func minus(x element, y element) element { return pairwise(rational.Sub, x, y) }

// pairwise returns what operate returns for each coefficient of x and that of y at
// the same place.
func pairwise(operate func(api.Ratio, api.Ratio) (api.Ratio, api.Errno), x element, y element) element {
	out := make(element, len(x))
	for i := range x {
		out[i] = must(operate(x[i], y[i]))
	}
	return out
}

// fold combines first with each of the others, from the left to the right.
func fold(combine func(x element, y element) element, first element, others ...element) element {
	for _, other := range others {
		first = combine(first, other)
	}
	return first
}

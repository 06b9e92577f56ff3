package tower

import (
	"slices"

	"workpiece/api"
	"workpiece/enclosure"
	"workpiece/rational"
)

// A field contains the numbers a + b * r, where a and b are numbers of the lower
// field, and r is the square root of the radicand, a positive number of the lower
// field. No field at all stands for the rational numbers.
type field struct {
	lower    *field
	radicand element
}

// fieldOf returns the field of the elements of t, which must be valid.
func fieldOf(t api.Tower) *field {
	var f *field
	for _, d := range t.Radicands {
		f = f.extended(d)
	}
	return f
}

// extended returns the field above f with the given radicand, which must be a
// positive element of f.
func (f *field) extended(radicand element) *field {
	refuseIf(f.size() == 1<<api.MaxLevel)
	refuseIf(f.sign(f.checked(radicand)) != 1)
	return &field{f, radicand}
}

// radicands returns copies of the radicands of f, from the lowest one on.
func (f *field) radicands() [][]api.Ratio {
	if f == nil {
		return nil
	}
	return append(f.lower.radicands(), slices.Clone(f.radicand))
}

// size returns the number of coefficients of an element.
func (f *field) size() int {
	if f == nil {
		return 1
	}
	return 2 * len(f.radicand)
}

// checked returns a, which must be an element of f.
func (f *field) checked(a []api.Ratio) element {
	refuseIf(len(a) != f.size())
	for _, r := range a {
		refuseIf(!rational.Valid(r))
	}
	return a
}

// embedded returns the element with the value of a, which must be an element of f,
// or of a field below it.
func (f *field) embedded(a []api.Ratio) element {
	if f == nil || len(a) == f.size() {
		return slices.Clone(f.checked(a))
	}
	return slices.Concat(f.lower.embedded(a), zeros(len(f.radicand)))
}

// root returns the square root of the radicand.
func (f *field) root() element {
	return slices.Concat(zeros(len(f.radicand)), f.lower.embedded(element{one}))
}

// times returns the product of x and y.
func (f *field) times(x element, y element) element {
	switch {
	case isZero(x) || isZero(y):
		// Nothing on the way to this product can be too large.
		return zeros(len(x))
	case f == nil:
		return pairwise(rational.Mul, x, y)
	}
	a, b := halves(x)
	c, e := halves(y)
	low := f.lower
	first := plus(low.times(a, c), fold(low.times, b, e, f.radicand))
	return slices.Concat(first, plus(low.times(a, e), low.times(b, c)))
}

// norm returns the product of x and its conjugate, which is in the lower field.
func (f *field) norm(x element) element {
	a, b := halves(x)
	low := f.lower
	return minus(low.times(a, a), fold(low.times, b, b, f.radicand))
}

// sign returns the sign of the value of x.
func (f *field) sign(x element) int {
	if f == nil {
		return rational.Compare(x[0], zero)
	}
	a, b := halves(x)
	s, t := f.lower.sign(a), f.lower.sign(b)
	switch {
	case t == 0:
		return s
	case s == 0 || s == t:
		return t
	}
	// The norm tells which one of the two outweighs the other.
	return s * f.lower.sign(f.norm(x))
}

// inverse returns 1 divided by x, whose value must not be 0.
func (f *field) inverse(x element) element {
	if f == nil {
		return pairwise(rational.Div, element{one}, x)
	}
	a, b := halves(x)
	low, norm := f.lower, f.norm(x)
	if low.sign(norm) == 0 {
		// The radicand is a square, and the conjugate is 0: x is a + a.
		return f.embedded(low.inverse(plus(a, a)))
	}
	m := low.inverse(norm)
	return slices.Concat(low.times(a, m), low.times(minus(zeros(len(b)), b), m))
}

// encloser returns the function that encloses elements in intervals, the ends of
// which have so many decimal places. Each root is enclosed only once.
func (f *field) encloser(places int) func(x element) api.Interval {
	if f == nil {
		return func(x element) api.Interval { return enclosure.Point(x[0]) }
	}
	enclose := f.lower.encloser(places)
	root := must(enclosure.Sqrt(enclose(f.radicand), places))
	return func(x element) api.Interval {
		a, b := halves(x)
		product := must(enclosure.Mul(enclose(b), root))
		return must(enclosure.Round(must(enclosure.Add(enclose(a), product)), places))
	}
}

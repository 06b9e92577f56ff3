package poly

import (
	"slices"

	"workpiece/api"
	"workpiece/rational"
)

// A polynomial is given by its coefficients, from the constant term up. The last
// one is not 0, so that zero has none.
type polynomial []api.Ratio

var (
	zero = api.Ratio{Num: "0", Den: "1"}
	one  = api.Ratio{Num: "1", Den: "1"}
	two  = api.Ratio{Num: "2", Den: "1"}
)

// maxSize is how many coefficients a polynomial has at most.
const maxSize = api.MaxDegree + 1

// checked returns p, which must be a polynomial.
func checked(p []api.Ratio) polynomial {
	refuseIf(len(p) > maxSize)
	refuseUnlessValid(p...)
	refuseIf(len(p) > 0 && p[len(p)-1] == zero)
	return p
}

// trimmed returns the polynomial with the given coefficients, which may end with
// zeros.
func trimmed(coefficients []api.Ratio) polynomial {
	size := len(coefficients)
	for size > 0 && coefficients[size-1] == zero {
		size--
	}
	return coefficients[:size]
}

func (p polynomial) isZero() bool { return len(p) == 0 }

// leading returns the last coefficient of p, which must not be zero.
func (p polynomial) leading() api.Ratio { return p[len(p)-1] }

// coefficient returns that of the power i of x.
func (p polynomial) coefficient(i int) api.Ratio {
	if i < len(p) {
		return p[i]
	}
	return zero
}

// pairwise returns the polynomial of what operate returns for each coefficient of
// p and that of q at the same place.
func pairwise(operate func(api.Ratio, api.Ratio) (api.Ratio, api.Errno), p polynomial, q polynomial) polynomial {
	out := make([]api.Ratio, max(len(p), len(q)))
	for i := range out {
		out[i] = must(operate(p.coefficient(i), q.coefficient(i)))
	}
	return trimmed(out)
}

// times returns the product of p and q.
func (p polynomial) times(q polynomial) polynomial {
	if p.isZero() || q.isZero() {
		return nil
	}
	refuseIf(len(p)+len(q)-1 > maxSize)
	out := slices.Repeat(polynomial{zero}, len(p)+len(q)-1)
	for i, a := range p {
		for k, b := range q {
			out[i+k] = must(rational.Add(out[i+k], must(rational.Mul(a, b))))
		}
	}
	return out
}

// over returns the quotient and the remainder of p and q, which must not be zero.
func (p polynomial) over(q polynomial) (quotient polynomial, rest polynomial) {
	refuseIf(q.isZero())
	rest = slices.Clone(p)
	quotient = slices.Repeat(polynomial{zero}, max(0, len(p)-len(q)+1))
	for len(rest) >= len(q) {
		shift := len(rest) - len(q)
		f := must(rational.Div(rest.leading(), q.leading()))
		for i, r := range q[:len(q)-1] {
			rest[shift+i] = must(rational.Sub(rest[shift+i], must(rational.Mul(f, r))))
		}
		quotient[shift] = f
		rest = trimmed(rest[:len(rest)-1])
	}
	return quotient, rest
}

// dividedBy returns p with each coefficient divided by r.
func (p polynomial) dividedBy(r api.Ratio) polynomial {
	out := make(polynomial, len(p))
	for i, c := range p {
		out[i] = must(rational.Div(c, r))
	}
	return out
}

// monic returns p divided by its leading coefficient, or zero if p is zero.
func (p polynomial) monic() polynomial {
	if p.isZero() {
		return nil
	}
	return p.dividedBy(p.leading())
}

// opposite returns p divided by the negative absolute value of its leading
// coefficient, or zero if p is zero.
func (p polynomial) opposite() polynomial {
	switch {
	case p.isZero():
		return nil
	case rational.Compare(p.leading(), zero) < 0:
		return p.dividedBy(p.leading())
	}
	return p.dividedBy(must(rational.Sub(zero, p.leading())))
}

// gcd returns the monic greatest common divisor of p and q, or zero if both are
// zero.
func gcd(p polynomial, q polynomial) polynomial {
	for !q.isZero() {
		_, rest := p.over(q)
		// Coefficients that are not made smaller would become too large soon.
		p, q = q, rest.monic()
	}
	return p.monic()
}

// derivative returns the derivative of p.
func (p polynomial) derivative() polynomial {
	var out polynomial
	for i := 1; i < len(p); i++ {
		out = append(out, must(rational.Mul(must(rational.Of(i, 1)), p[i])))
	}
	return out
}

// at returns the value of p at x.
func (p polynomial) at(x api.Ratio) api.Ratio {
	value := zero
	for _, c := range slices.Backward(p) {
		value = must(rational.Add(must(rational.Mul(value, x)), c))
	}
	return value
}

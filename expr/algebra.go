package expr

import (
	"workpiece/api"
	"workpiece/enclosure"
	"workpiece/poly"
	"workpiece/rational"
)

// An operation returns what two values are combined to, or an error if there is
// no such value.
type operation[T any] func(left T, right T) (T, api.Errno)

// An algebra tells what the nodes of an expression mean: the same expression is a
// number, an interval, a polynomial, a dimension or a text.
type algebra[T any] struct {
	constant  func(n api.ExprNode) T
	parameter func(index int) T
	add       operation[T]
	sub       operation[T]
	mul       operation[T]
	div       operation[T]
}

// valueOf returns the value of the last node of e, whose nodes must be in order.
// There is none if any of the nodes has none.
func (a algebra[T]) valueOf(e api.Expr) T {
	var values []T
	for _, n := range e.Nodes {
		values = append(values, a.valueAfter(values, n))
	}
	return values[len(values)-1]
}

// valueAfter returns the value of n, where earlier nodes have the given values.
func (a algebra[T]) valueAfter(values []T, n api.ExprNode) T {
	var operate operation[T]
	switch n.Op {
	case api.EConst:
		return a.constant(n)
	case api.EParam:
		return a.parameter(n.Param)
	case api.EAdd:
		operate = a.add
	case api.ESub:
		operate = a.sub
	case api.EMul:
		operate = a.mul
	case api.EDiv:
		operate = a.div
	}
	return must(operate(values[n.Left], values[n.Right]))
}

// dimensions returns the algebra of the exponents of the unit of length.
func dimensions(params []api.Param) algebra[int] {
	return algebra[int]{
		constant:  func(n api.ExprNode) int { return n.Dim },
		parameter: func(index int) int { return params[index].Dim },
		add:       common,
		sub:       common,
		mul:       func(left int, right int) (int, api.Errno) { return dimension(left + right) },
		div:       func(left int, right int) (int, api.Errno) { return dimension(left - right) },
	}
}

// common returns the dimension that left and right must have in common.
func common(left int, right int) (int, api.Errno) {
	refuseIf(left != right)
	return left, api.OK
}

// dimension returns dim, which must be the dimension of a value.
func dimension(dim int) (int, api.Errno) {
	refuseIf(!isDimension(dim))
	return dim, api.OK
}

// fractions returns the algebra of numbers, where parameters have the given
// values.
func fractions(values []api.Ratio) algebra[api.Ratio] {
	return algebra[api.Ratio]{
		constant:  func(n api.ExprNode) api.Ratio { return n.Value },
		parameter: func(index int) api.Ratio { return values[index] },
		add:       rational.Add,
		sub:       rational.Sub,
		mul:       rational.Mul,
		div:       rational.Div,
	}
}

// intervals returns the algebra of intervals, where parameters have the given
// ones.
func intervals(ranges []api.Interval) algebra[api.Interval] {
	return algebra[api.Interval]{
		constant:  func(n api.ExprNode) api.Interval { return enclosure.Point(n.Value) },
		parameter: func(index int) api.Interval { return ranges[index] },
		add:       enclosure.Add,
		sub:       enclosure.Sub,
		mul:       enclosure.Mul,
		div:       enclosure.Div,
	}
}

var (
	zero = api.Ratio{Num: "0", Den: "1"}
	one  = api.Ratio{Num: "1", Den: "1"}
)

// polynomials returns the algebra of polynomials in one parameter, where the other
// ones have the given values.
func polynomials(values []api.Ratio, variable int) algebra[[]api.Ratio] {
	return algebra[[]api.Ratio]{
		constant: func(n api.ExprNode) []api.Ratio { return constantPolynomial(n.Value) },
		parameter: func(index int) []api.Ratio {
			if index == variable {
				return []api.Ratio{zero, one}
			}
			return constantPolynomial(values[index])
		},
		add: poly.Add,
		sub: poly.Sub,
		mul: poly.Mul,
		div: quotient,
	}
}

// constantPolynomial returns the polynomial with the value r everywhere.
func constantPolynomial(r api.Ratio) []api.Ratio {
	if r == zero {
		return nil
	}
	return []api.Ratio{r}
}

// quotient returns the polynomial p divided by q, which must be a constant other
// than 0.
func quotient(p []api.Ratio, q []api.Ratio) ([]api.Ratio, api.Errno) {
	refuseIf(len(q) != 1)
	return poly.Mul(p, []api.Ratio{must(rational.Div(one, q[0]))})
}

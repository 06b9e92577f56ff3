package expr_test

import (
	"slices"
	"testing"

	"workpiece/api"
	"workpiece/expr"
	"workpiece/poly"
	"workpiece/rational"
	"workpiece/sample"
)

// constantPolynomial returns the polynomial with the value r.
func constantPolynomial(r api.Ratio) []api.Ratio {
	if r.Num == "0" {
		return nil
	}
	return []api.Ratio{r}
}

// divide returns p divided by a constant, as the chapter defines it.
func divide(p, q []api.Ratio) ([]api.Ratio, api.Errno) {
	if len(q) != 1 {
		return nil, api.ErrExpr
	}
	inverse, err := rational.Div(number("1"), q[0])
	if err != api.OK {
		return nil, err
	}
	return poly.Mul(p, []api.Ratio{inverse})
}

// wantPoly returns the outcome of Poly of the valid expression e, as the chapter
// defines it.
func wantPoly(e api.Expr, values []api.Ratio, param int) string {
	ofParameter := func(i int) []api.Ratio {
		if i == param {
			return numbers("0 1")
		}
		return constantPolynomial(values[i])
	}
	p, ok := defined(e, constantPolynomial, ofParameter, poly.Add, poly.Sub, poly.Mul, divide)
	if !ok {
		return refused
	}
	return polyOutcome(p, api.OK)
}

// P8.1: the polynomial, or that there is none, as the chapter defines it.
func TestPoly(t *testing.T) {
	results, refusals := 0, 0
	large := maker{params: mixed(), numbers: largeConstants(), shared: true}
	for i, e := range append(expressions(700, true, 50), expressions(500, false, 51)...) {
		values := changedValues(8, 2, uint64(i))
		if i%4 == 0 {
			e = large.expression(2+i%7, uint64(i)<<16)
			values = changedValues(8, 100, uint64(i))
		}
		for param := range 8 {
			want := wantPoly(e, values, param)
			if got := polyOutcome(expr.Poly(e, mixed(), values, param)); got != want {
				t.Errorf("Poly(%s, %d) = %s instead of %s", nodesText(e), param, got, want)
			}
			if want == refused {
				refusals++
			} else {
				results++
			}
		}
	}
	if results < 3000 || refusals < 600 {
		t.Errorf("%d results, %d refusals", results, refusals)
	}
}

// P8.1: polynomials by hand.
func TestPolyKnown(t *testing.T) {
	for i, c := range []struct {
		s     string
		param int
		want  string
	}{
		{"p0", 0, "0 1"}, {"p0", 1, "6"}, {"p1", 0, "2"}, {"0m", 0, ""}, {"-7/2m3", 1, "-7/2"}, {"(p0 - p0)", 0, ""}, {"(p0 - 6m)", 1, ""}, {"(p0 * 0)", 0, ""},
		{"((p0 + 1m) * (p0 - 1m))", 0, "-1 0 1"}, {"(p0 * (p0 * p0))", 0, "0 0 0 1"}, {"(p0 * p1)", 0, "0 2"}, {"(p0 * p1)", 1, "0 6"},
		{"(p0 / p1)", 0, "0 1/2"}, {"(p0 / p1)", 1, refused}, {"(p1 / p1)", 1, refused}, {"(p0 / (p1 - p1))", 0, refused}, {"(p0 / (p1 - p1))", 1, refused}, {"(1 / (p1 - 2))", 0, refused}, {"(1 / (p1 - 3))", 0, "-1"},
		{"(p0 / ((p1 + 3) - p1))", 1, "2"}, {"(p1 / ((p1 + 3) - p1))", 1, "0 1/3"}, {"(0 / p1)", 1, refused}, {"(0 / p1)", 0, ""}, {"(p1 / -1/2)", 1, "0 -2"}, {"((p1 * p1) / 4)", 1, "0 0 1/4"},
	} {
		e := parsed(c.s, pair())
		if got := polyOutcome(expr.Poly(e, pair(), numbers("6 2"), c.param)); got != c.want {
			t.Errorf("%d: Poly(%s, %d) = %s", i, c.s, c.param, got)
		}
	}
}

// P8.1: param must be the index of a parameter, whether the expression needs one or
// not.
func TestPolyParam(t *testing.T) {
	for size := range 9 {
		params := mixed()[:size]
		for _, param := range []int{-1 << 63, -2, -1, 0, 1, 2, 3, 4, 5, 6, 7, 8, 9, 1 << 32, 1<<63 - 1} {
			want := refused
			if param >= 0 && param < size {
				want = "3"
			}
			if got := polyOutcome(expr.Poly(of(constant("3", 1)), params, valuesOf(params), param)); got != want {
				t.Errorf("%d parameters, %d: %s", size, param, got)
			}
		}
	}
	list := []api.Ratio{number("6"), {}}
	if got := polyOutcome(expr.Poly(of(parameter(0)), pair(), list, 1)); got != refused {
		t.Errorf("a value that is not valid, of the parameter that has none: %s", got)
	}
}

// P8.1: the degree of a polynomial is at most 12, also of one that is not needed.
func TestPolyDegree(t *testing.T) {
	nodes := []api.ExprNode{parameter(1)}
	for i := range 12 {
		want := ""
		for range i + 1 {
			want += "0 "
		}
		if got := polyOutcome(expr.Poly(of(nodes...), pair(), numbers("6 2"), 1)); got != want+"1" {
			t.Errorf("degree %d: %s", i+1, got)
		}
		nodes = append(nodes, combined(api.EMul, i, 0))
	}
	values := numbers("6 2")
	for i, c := range []struct{ got, want string }{
		{polyOutcome(expr.Poly(of(nodes...), pair(), values, 1)), refused}, {polyOutcome(expr.Poly(of(nodes...), pair(), values, 0)), "8192"}, {numberOutcome(expr.Eval(of(nodes...), pair(), values)), "8192"},
		{polyOutcome(expr.Poly(of(append(slices.Clone(nodes), parameter(1))...), pair(), values, 1)), refused},
		{polyOutcome(expr.Poly(of(append(slices.Clone(nodes), combined(api.ESub, 12, 12))...), pair(), values, 1)), refused},
		{polyOutcome(expr.Poly(of(append(slices.Clone(nodes[:12]), combined(api.ESub, 11, 11), combined(api.EMul, 12, 11))...), pair(), values, 1)), ""},
	} {
		if c.got != c.want {
			t.Errorf("%d: %s", i, c.got)
		}
	}
}

// P8.1: numbers that are too large for a polynomial, or for the value only.
func TestPolyTooLarge(t *testing.T) {
	half, nines := sample.Power(100), sample.Nines()
	for i, c := range []struct{ s, first, poly, value string }{
		{"(p0 * p0)", half, "0 0 1", refused}, {"(p0 * (p1 * " + half + "))", "1", "0 2" + half[1:], "2" + half[1:]}, {"((p1 * " + half + ") * (p0 * " + half + "))", "0", refused, "0"},
		{"(p0 + " + nines + "m)", "1", nines + " 1", refused}, {"((p0 + " + nines + "m) + 1m)", "-1", refused, nines}, {"(p0 / 1/" + nines + ")", "1", "0 " + nines, nines}, {"(p0 / " + nines + ")", "1", "0 1/" + nines, "1/" + nines},
	} {
		e := parsed(c.s, pair())
		values := numbers(c.first + " 2")
		if got := polyOutcome(expr.Poly(e, pair(), values, 0)); got != c.poly {
			t.Errorf("%d: the polynomial %s", i, got)
		}
		if got := numberOutcome(expr.Eval(e, pair(), values)); got != c.value {
			t.Errorf("%d: the value %s", i, got)
		}
	}
}

// P8.3: the values of the polynomial are those of the expression.
func TestPolyValues(t *testing.T) {
	compared := 0
	for i, e := range append(expressions(400, true, 60), expressions(300, false, 61)...) {
		values := changedValues(8, 2, uint64(i))
		for param := range 8 {
			p, err := expr.Poly(e, mixed(), values, param)
			if err != api.OK {
				continue
			}
			for _, x := range numbers("0 1 -1/2 7/3 -100") {
				changed := slices.Clone(values)
				changed[param] = x
				r, err := expr.Eval(e, mixed(), changed)
				v, errPoly := poly.Eval(p, x)
				if err != api.OK || errPoly != api.OK {
					continue
				}
				compared++
				if r != v {
					t.Errorf("%s: %s instead of %s for parameter %d = %s", nodesText(e), rational.Print(v), rational.Print(r), param, rational.Print(x))
				}
			}
		}
	}
	if compared < 10000 {
		t.Errorf("only %d values are compared", compared)
	}
}

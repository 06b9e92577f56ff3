package expr_test

import (
	"math/big"
	"slices"
	"strconv"
	"testing"

	"workpiece/api"
	"workpiece/expr"
	"workpiece/rational"
	"workpiece/sample"
)

// largeConstants returns fractions of all lengths.
func largeConstants() []api.Ratio {
	return append(sample.LargeFractions()[:60], sample.Fractions(40, api.MaxDigits, 5)...)
}

// changedValues returns values for the parameters, which mostly lie outside of
// their ranges.
func changedValues(count int, length int, seed uint64) []api.Ratio {
	out := sample.Fractions(count, length, seed)
	out[int(seed)%count] = number("0")
	return out
}

// P8.1: the value is that of exact calculation, for all values of the parameters,
// wherever nothing can be too large.
func TestEval(t *testing.T) {
	compared, divided := 0, 0
	for i, e := range append(expressions(1500, true, 10), expressions(1000, false, 11)...) {
		for k, values := range [][]api.Ratio{valuesOf(mixed()), changedValues(8, 1, uint64(i)), changedValues(8, 6, uint64(i)+7)} {
			want, ok := wantValue(e, values)
			if !ok {
				continue
			}
			compared++
			if want == refused {
				divided++
			}
			if got := numberOutcome(expr.Eval(e, mixed(), values)); got != want {
				t.Errorf("Eval(%s, values %d) = %s instead of %s", nodesText(e), k, got, want)
			}
		}
	}
	if compared < 6000 || divided < 100 {
		t.Errorf("%d values are compared, of which %d do not exist", compared, divided)
	}
}

// P8.1: the value, or that something is too large, as the chapter defines it.
func TestEvalDefined(t *testing.T) {
	results, refusals := 0, 0
	m := maker{params: mixed(), numbers: largeConstants(), shared: true}
	for i := range 1500 {
		e := m.expression(2+i%9, uint64(i)<<16)
		values := changedValues(8, []int{20, 60, 100, 200}[i%4], uint64(i))
		want := refused
		if r, ok := defined(e, func(r api.Ratio) api.Ratio { return r }, func(k int) api.Ratio { return values[k] }, rational.Add, rational.Sub, rational.Mul, rational.Div); ok {
			want = rational.Print(r)
			results++
		} else {
			refusals++
		}
		if got := numberOutcome(expr.Eval(e, mixed(), values)); got != want {
			t.Errorf("Eval(%s) = %s instead of %s", nodesText(e), got, want)
		}
	}
	if results < 300 || refusals < 300 {
		t.Errorf("%d results, %d refusals", results, refusals)
	}
}

// P8.1: each node must have a value, also one that the last node does not need.
func TestEvalOfAllNodes(t *testing.T) {
	params := pair()
	nines := sample.Nines()
	for i, c := range []struct {
		e          api.Expr
		first      string
		second     string
		value      string
		enclosed   string
		polynomial string
	}{
		{of(constant("0", 0), combined(api.EDiv, 0, 0), parameter(1)), "6", "2", refused, refused, refused},
		{of(parameter(1), parameter(0), combined(api.EDiv, 1, 0), parameter(0)), "6", "0", refused, refused, refused},
		{of(parameter(1), parameter(0), combined(api.EDiv, 1, 0), parameter(0)), "6", "2", "6", "6 6", refused},
		{of(constant(nines, 0), constant("1", 0), combined(api.EAdd, 0, 1), parameter(1)), "6", "2", refused, refused, refused},
		{of(constant(nines, 0), constant("1", 0), combined(api.ESub, 0, 1), combined(api.EAdd, 2, 1)), "6", "2", nines, nines + " " + nines, nines},
		{of(parameter(1), combined(api.EMul, 0, 0), parameter(0)), "6", sample.Power(100), refused, refused, "6"},
		{of(parameter(1), combined(api.EMul, 0, 0), parameter(0)), "6", sample.Power(99), "6", "6 6", "6"},
		{of(parameter(1), combined(api.ESub, 0, 0), combined(api.EDiv, 0, 1), parameter(0)), "6", "2", refused, refused, refused},
		{of(parameter(0), parameter(0), combined(api.EDiv, 0, 1)), "0", "2", refused, refused, refused},
		{of(parameter(0), parameter(0), combined(api.EDiv, 0, 1)), "-7/3", "2", "1", "1 1", "1"},
	} {
		values := numbers(c.first + " " + c.second)
		if got := numberOutcome(expr.Eval(c.e, params, values)); got != c.value {
			t.Errorf("%d: the value %s", i, got)
		}
		if got := spanOutcome(expr.Enclose(c.e, params, spans(c.first+" "+c.first+" "+c.second+" "+c.second))); got != c.enclosed {
			t.Errorf("%d: the interval %s", i, got)
		}
		if got := polyOutcome(expr.Poly(c.e, params, values, 1)); got != c.polynomial {
			t.Errorf("%d: the polynomial %s", i, got)
		}
	}
}

// P8.1: there must be a valid value for each parameter, whether the expression
// needs it or not.
func TestEvalValues(t *testing.T) {
	for _, e := range []api.Expr{of(constant("1", 0)), of(parameter(0)), of(parameter(1))} {
		lists := [][]api.Ratio{nil, {}, numbers("1"), numbers("1 2 3"), slices.Repeat(numbers("1"), 8), slices.Repeat(numbers("1"), 1<<16)}
		for _, r := range sample.InvalidFractions() {
			lists = append(lists, []api.Ratio{r, number("1")}, []api.Ratio{number("1"), r}, []api.Ratio{r, r})
		}
		for _, values := range lists {
			if got := numberOutcome(expr.Eval(e, pair(), values)); got != refused {
				t.Errorf("Eval with %.100q: %s", values, got)
			}
			for param := range 2 {
				if got := polyOutcome(expr.Poly(e, pair(), values, param)); got != refused {
					t.Errorf("Poly with %.100q: %s", values, got)
				}
			}
		}
	}
	if got := numberOutcome(expr.Eval(of(constant("-7/2", 3)), nil, nil)); got != "-7/2" {
		t.Errorf("without parameters: %s", got)
	}
	if got := numberOutcome(expr.Eval(of(constant("-7/2", 3)), nil, numbers("1"))); got != refused {
		t.Errorf("with a value and no parameter: %s", got)
	}
}

// power returns k to the power of dim.
func power(k *big.Rat, dim int) *big.Rat {
	out := big.NewRat(1, 1)
	for range dim {
		out.Mul(out, k)
	}
	return out
}

// scaled returns r times k to the power of dim.
func scaled(r api.Ratio, k *big.Rat, dim int) api.Ratio {
	return ofValue(new(big.Rat).Mul(value(r), power(k, dim)))
}

// inUnit returns the expression, parameters and values if the unit of length is
// divided by k.
func inUnit(k *big.Rat, e api.Expr, params []api.Param, values []api.Ratio) (api.Expr, []api.Param, []api.Ratio) {
	var other api.Expr
	for _, n := range e.Nodes {
		if n.Op == api.EConst {
			n.Value = scaled(n.Value, k, n.Dim)
		}
		other.Nodes = append(other.Nodes, n)
	}
	var otherParams []api.Param
	var otherValues []api.Ratio
	for i, p := range params {
		p.Value = scaled(p.Value, k, p.Dim)
		p.Range = api.Interval{Lo: scaled(p.Range.Lo, k, p.Dim), Hi: scaled(p.Range.Hi, k, p.Dim)}
		otherParams = append(otherParams, p)
		otherValues = append(otherValues, scaled(values[i], k, p.Dim))
	}
	return other, otherParams, otherValues
}

// P8.4: another unit of length multiplies the value by the power of k whose
// exponent is the dimension.
func TestHomogeneity(t *testing.T) {
	compared := map[string]int{}
	for i, e := range append(expressions(800, true, 20), expressions(600, false, 21)...) {
		params, values := mixed(), changedValues(8, 2, uint64(i))
		for _, k := range []*big.Rat{big.NewRat(2, 1), big.NewRat(1, 3), big.NewRat(254, 10), big.NewRat(1, 1000)} {
			r, err := expr.Eval(e, params, values)
			other, otherParams, otherValues := inUnit(k, e, params, values)
			s, errOther := expr.Eval(other, otherParams, otherValues)
			if err != api.OK || errOther != api.OK {
				continue
			}
			dim, _ := expr.Dim(e, params)
			if otherDim, errDim := expr.Dim(other, otherParams); otherDim != dim || errDim != api.OK {
				t.Errorf("%s: the dimension %d", nodesText(other), otherDim)
			}
			compared[strconv.Itoa(dim)]++
			if want := scaled(r, k, dim); s != want {
				t.Errorf("%s, with the unit divided by %s: %s instead of %s", nodesText(e), k, rational.Print(s), rational.Print(want))
			}
		}
	}
	for dim := range 4 {
		if compared[strconv.Itoa(dim)] < 300 {
			t.Errorf("only %d values of the dimension %d", compared[strconv.Itoa(dim)], dim)
		}
	}
}

package expr_test

import (
	"math/big"
	"strconv"
	"strings"

	"workpiece/api"
	"workpiece/rational"
	"workpiece/sample"
)

// refused is the outcome of a call that returns ErrExpr.
var refused = sample.Failure(api.ErrExpr)

// dimOutcome returns the text of a resulting dimension, or refused.
func dimOutcome(dim int, err api.Errno) string {
	return sample.Outcome(strconv.Itoa(dim), dim == 0, err)
}

// numberOutcome returns the text of a resulting fraction, or refused.
func numberOutcome(r api.Ratio, err api.Errno) string {
	return sample.Outcome(rational.Print(r), r == api.Ratio{}, err)
}

// spanOutcome returns the text of a resulting interval, or refused.
func spanOutcome(x api.Interval, err api.Errno) string {
	return sample.Outcome(rational.Print(x.Lo)+" "+rational.Print(x.Hi), x == api.Interval{}, err)
}

// polyOutcome returns the text of a resulting polynomial, or refused.
func polyOutcome(p []api.Ratio, err api.Errno) string {
	var words []string
	for _, r := range p {
		words = append(words, rational.Print(r))
	}
	return sample.Outcome(strings.Join(words, " "), len(p) == 0, err)
}

// textOutcome returns a resulting text, or refused.
func textOutcome(s string, err api.Errno) string { return sample.Outcome(s, s == "", err) }

// exprOutcome returns a text of all fields of a resulting expression, or refused.
func exprOutcome(e api.Expr, err api.Errno) string {
	return sample.Outcome(nodesText(e), len(e.Nodes) == 0, err)
}

// nodesText returns a text of all fields of e.
func nodesText(e api.Expr) string {
	var out strings.Builder
	for _, n := range e.Nodes {
		out.WriteString("[" + strconv.Itoa(n.Op) + " " + n.Value.Num + "/" + n.Value.Den)
		for _, field := range []int{n.Dim, n.Param, n.Left, n.Right} {
			out.WriteString(" " + strconv.Itoa(field))
		}
		out.WriteString("]")
	}
	return out.String()
}

// dimensionOf returns the dimension of an operation on values of two dimensions,
// unless it mixes them.
func dimensionOf(op, left, right int) (int, bool) {
	switch op {
	case api.EAdd, api.ESub:
		return left, left == right
	case api.EMul:
		return left + right, left+right <= 3
	case api.EDiv:
		return left - right, left >= right
	}
	return 0, false
}

// areParams reports whether the list of parameters is valid.
func areParams(params []api.Param) bool {
	for _, p := range params {
		for _, r := range []api.Ratio{p.Value, p.Range.Lo, p.Range.Hi} {
			if !rational.Valid(r) {
				return false
			}
		}
		if p.Dim < 0 || p.Dim > 3 || value(p.Range.Lo).Cmp(value(p.Value)) > 0 || value(p.Value).Cmp(value(p.Range.Hi)) > 0 {
			return false
		}
	}
	return len(params) <= 8
}

// wantDim returns the outcome of Dim of e, by the table of the chapter.
func wantDim(e api.Expr, params []api.Param) string {
	if !areParams(params) || len(e.Nodes) < 1 || len(e.Nodes) > 24 {
		return refused
	}
	var dims []int
	for i, n := range e.Nodes {
		dim, ok := 0, false
		switch {
		case n.Op == 1 && n.Param == 0 && n.Left == 0 && n.Right == 0:
			dim, ok = n.Dim, n.Dim >= 0 && n.Dim <= 3 && rational.Valid(n.Value)
		case n.Op == 2 && n.Value.Num+n.Value.Den == "" && n.Dim == 0 && n.Left == 0 && n.Right == 0 && n.Param >= 0 && n.Param < len(params):
			dim, ok = params[n.Param].Dim, true
		case n.Op >= 3 && n.Op <= 6 && n.Value.Num+n.Value.Den == "" && n.Dim == 0 && n.Param == 0 && n.Left >= 0 && n.Right >= 0 && n.Left < i && n.Right < i:
			dim, ok = dimensionOf(n.Op, dims[n.Left], dims[n.Right])
		}
		if !ok {
			return refused
		}
		dims = append(dims, dim)
	}
	return strconv.Itoa(dims[len(dims)-1])
}

// value returns the value of the valid fraction r.
func value(r api.Ratio) *big.Rat {
	v, ok := new(big.Rat).SetString(r.Num + "/" + r.Den)
	if !ok {
		panic("not a fraction: " + r.Num + "/" + r.Den)
	}
	return v
}

// ofValue returns the fraction with the value v.
func ofValue(v *big.Rat) api.Ratio {
	return api.Ratio{Num: v.Num().String(), Den: v.Denom().String()}
}

// exact returns the values of all nodes of the valid expression e, or less if a
// divisor is 0.
func exact(e api.Expr, values []api.Ratio) []*big.Rat {
	var out []*big.Rat
	for _, n := range e.Nodes {
		v := new(big.Rat)
		switch n.Op {
		case api.EConst:
			v = value(n.Value)
		case api.EParam:
			v = value(values[n.Param])
		case api.EAdd:
			v.Add(out[n.Left], out[n.Right])
		case api.ESub:
			v.Sub(out[n.Left], out[n.Right])
		case api.EMul:
			v.Mul(out[n.Left], out[n.Right])
		case api.EDiv:
			if out[n.Right].Sign() == 0 {
				return out
			}
			v.Quo(out[n.Left], out[n.Right])
		}
		out = append(out, v)
	}
	return out
}

// areSmall reports whether no operation on any two of the values is too large.
func areSmall(values []*big.Rat) bool {
	for _, v := range values {
		if len(v.Num().String()) > 99 || len(v.Denom().String()) > 99 {
			return false
		}
	}
	return true
}

// wantValue returns the outcome of Eval of the valid expression e, unless
// something may be too large.
func wantValue(e api.Expr, values []api.Ratio) (string, bool) {
	all := exact(e, values)
	switch {
	case !areSmall(all):
		return "", false
	case len(all) < len(e.Nodes):
		return refused, true
	}
	return rational.Print(ofValue(all[len(all)-1])), true
}

// defined returns what is calculated for the last node of e if the nodes are
// calculated in order, and whether all of them can be: constants and parameters
// by the functions of this name, and an operation by that in its place, from EAdd
// on.
func defined[T any](e api.Expr, ofConstant func(r api.Ratio) T, ofParameter func(index int) T, operations ...func(a, b T) (T, api.Errno)) (T, bool) {
	var out []T
	for _, n := range e.Nodes {
		switch n.Op {
		case api.EConst:
			out = append(out, ofConstant(n.Value))
		case api.EParam:
			out = append(out, ofParameter(n.Param))
		default:
			v, err := operations[n.Op-api.EAdd](out[n.Left], out[n.Right])
			if err != api.OK {
				var none T
				return none, false
			}
			out = append(out, v)
		}
	}
	return out[len(out)-1], true
}

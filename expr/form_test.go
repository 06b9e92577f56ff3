package expr_test

import (
	"slices"
	"strconv"
	"testing"

	"workpiece/api"
	"workpiece/expr"
	"workpiece/rational"
)

// checkForm checks Valid and Dim of e against the table of the chapter.
func checkForm(t *testing.T, e api.Expr, params []api.Param) {
	t.Helper()
	want := wantDim(e, params)
	if got := dimOutcome(expr.Dim(e, params)); got != want {
		t.Errorf("Dim(%.200s) = %s instead of %s", nodesText(e), got, want)
	}
	if expr.Valid(e, params) != (want != refused) {
		t.Errorf("Valid(%.200s) = %t", nodesText(e), want == refused)
	}
}

// P8.1: the examples of the chapter.
func TestExamples(t *testing.T) {
	first, err := expr.Parse("((p0 * 1/2) + 3m)", pair())
	if len(first.Nodes) != 5 || err != api.OK {
		t.Fatal(nodesText(first), err)
	}
	values := valuesOf(pair())
	for i, c := range []struct{ got, want string }{
		{dimOutcome(expr.Dim(first, pair())), "1"}, {numberOutcome(expr.Eval(first, pair(), values)), "6"},
		{exprOutcome(expr.Parse("(p0 + p1)", pair())), refused},
		{spanOutcome(expr.Enclose(first, pair(), spans("4 8 1 3"))), "5 7"},
		{polyOutcome(expr.Poly(parsed("((p1 * p1) - (p1 / 2))", pair()), pair(), values, 1)), "0 -1/2 1"},
		{polyOutcome(expr.Poly(parsed("(p0 / p1)", pair()), pair(), values, 1)), refused},
	} {
		if c.got != c.want {
			t.Errorf("%d: %s instead of %s", i, c.got, c.want)
		}
	}
}

// P8.1: nodes with all values of all fields, as the last node, and before it.
func TestValidNodes(t *testing.T) {
	checked := 0
	for _, r := range []api.Ratio{{}, number("0"), number("-1/2"), {Num: "2", Den: "4"}, {Num: "1"}} {
		for op := -1; op <= 7; op++ {
			for dim := -1; dim <= 4; dim++ {
				for param := -1; param <= 2; param++ {
					for left := -1; left <= 3; left++ {
						for right := -1; right <= 3; right++ {
							n := api.ExprNode{Op: op, Value: r, Dim: dim, Param: param, Left: left, Right: right}
							e := of(parameter(0), constant("3", 1), n)
							checkForm(t, e, pair())
							checkForm(t, of(n), pair())
							checkForm(t, of(parameter(1), n, parameter(0)), pair())
							if expr.Valid(e, pair()) {
								checked++
							}
						}
					}
				}
			}
		}
	}
	// Of constants, parameters, sums, differences, products and quotients.
	if want := 2*4 + 2 + 4 + 4 + 4 + 4; checked != want {
		t.Errorf("%d valid nodes instead of %d", checked, want)
	}
}

// P8.1: extreme values of the fields that are numbers.
func TestValidExtremes(t *testing.T) {
	for _, x := range []int{-1 << 63, -1 << 62, -1 << 32, 1 << 32, 1<<32 + 1, 1 << 62, 1<<63 - 1} {
		for _, n := range []api.ExprNode{
			{Op: x, Value: number("1")}, {Op: x, Left: 1}, constant("1", x), parameter(x), combined(api.EMul, x, 0), combined(api.EMul, 0, x), combined(api.EDiv, x, x),
			{Op: api.EConst, Value: number("1"), Left: x}, {Op: api.EParam, Right: x}, {Op: api.EAdd, Dim: x}, {Op: api.ESub, Param: x}, {Op: api.EParam, Dim: x},
		} {
			for _, e := range []api.Expr{of(n), of(parameter(0), n), of(parameter(0), parameter(1), n), of(parameter(0), parameter(0), n, parameter(1))} {
				checkForm(t, e, pair())
				expr.Depends(e)
			}
		}
	}
}

// P8.1: operations on all pairs of dimensions, also by several steps.
func TestDimensions(t *testing.T) {
	for op := api.EAdd; op <= api.EDiv; op++ {
		for left := range 4 {
			for right := range 4 {
				want := refused
				if dim, ok := dimensionOf(op, left, right); ok {
					want = strconv.Itoa(dim)
				}
				e := of(constant("2", left), constant("3", right), combined(op, 0, 1))
				if got := dimOutcome(expr.Dim(e, nil)); got != want {
					t.Errorf("operation %d with dimensions %d and %d: %s", op, left, right, got)
				}
				params := []api.Param{length(left, "2 2 2"), length(right, "3 3 3")}
				e = of(parameter(0), parameter(1), combined(op, 0, 1))
				if got := dimOutcome(expr.Dim(e, params)); got != want {
					t.Errorf("operation %d with parameters of dimensions %d and %d: %s", op, left, right, got)
				}
				e.Nodes = append(e.Nodes, constant("1", 2))
				if got := dimOutcome(expr.Dim(e, params)); (got == refused) != (want == refused) || got != refused && got != "2" {
					t.Errorf("operation %d with dimensions %d and %d before the last node: %s", op, left, right, got)
				}
			}
		}
	}
	for s, want := range map[string]string{"(1m / 1m)": "0", "(1m3 / 1m)": "2", "((1m2 * 1m) / (1m * 1m))": "1", "((1m3 / 1m3) * 1m3)": "3", "(((1 / 1) + 2) - 3)": "0", "(0m3 - 0m3)": "3"} {
		if got := dimOutcome(expr.Dim(parsed(s, nil), nil)); got != want {
			t.Errorf("%s: %s", s, got)
		}
	}
	for _, s := range []string{"(1m2 * 1m2)", "(1m3 * 1m)", "(1 / 1m)", "(1m2 / 1m3)", "((1 / 1m) * 1m)", "((1m3 * 1m) / 1m)", "(1m + 1)", "(1m2 - 1m)", "(0 + 0m)", "(0m3 * 0m)"} {
		if got := exprOutcome(expr.Parse(s, nil)); got != refused {
			t.Errorf("%s: %s", s, got)
		}
	}
}

// P8.1: expressions of many nodes, valid ones and others.
func TestValidExpressions(t *testing.T) {
	for i, e := range append(expressions(600, true, 1), expressions(300, false, 2)...) {
		checkForm(t, e, mixed())
		if !expr.Valid(e, mixed()) {
			t.Fatalf("not valid: %s", nodesText(e))
		}
		checkForm(t, e, mixed()[:i%8])
		checkForm(t, e, slices.Concat(mixed()[1:], mixed()[:1]))
		at := i % len(e.Nodes)
		for _, change := range []func(n *api.ExprNode){
			func(n *api.ExprNode) { n.Op++ }, func(n *api.ExprNode) { n.Op-- }, func(n *api.ExprNode) { n.Dim++ }, func(n *api.ExprNode) { n.Param++ }, func(n *api.ExprNode) { n.Left++ }, func(n *api.ExprNode) { n.Right++ }, func(n *api.ExprNode) { n.Left-- }, func(n *api.ExprNode) { n.Right, n.Left = at, 0 }, func(n *api.ExprNode) { n.Value.Den += "0" },
		} {
			changed := of(slices.Clone(e.Nodes)...)
			change(&changed.Nodes[at])
			checkForm(t, changed, mixed())
		}
	}
}

// P8.1: numbers of nodes and of parameters.
func TestSizes(t *testing.T) {
	fine := length(0, "1 0 2")
	for _, params := range []int{0, 1, 7, 8, 9, 16, 1 << 16} {
		list := slices.Repeat([]api.Param{fine}, params)
		for _, nodes := range []int{0, 1, 2, 23, 24, 25, 48, 1 << 16} {
			e := of(slices.Repeat([]api.ExprNode{constant("1", 0)}, nodes)...)
			if got, want := expr.Valid(e, list), nodes >= 1 && nodes <= 24 && params <= 8; got != want {
				t.Errorf("%d nodes, %d parameters: %t", nodes, params, got)
			}
		}
		for param := params - 2; param <= params+1; param++ {
			if got, want := expr.Valid(of(parameter(param)), list), param >= 0 && param < params && params <= 8; got != want {
				t.Errorf("parameter %d of %d: %t", param, params, got)
			}
		}
	}
}

// outcomes returns the outcomes of all functions that refuse what is not valid.
// The last one is Poly.
func outcomes(e api.Expr, params []api.Param, values []api.Ratio, ranges []api.Interval) []string {
	return []string{
		dimOutcome(expr.Dim(e, params)), textOutcome(expr.Print(e, params)), spanOutcome(expr.Enclose(e, params, ranges)),
		numberOutcome(expr.Eval(e, params, values)), polyOutcome(expr.Poly(e, params, values, 0)),
	}
}

// P8.1: all functions refuse what is not valid; and parameters that are not valid
// for any expression, whether it needs them or not.
func TestRefused(t *testing.T) {
	allRefused := []string{refused, refused, refused, refused, refused}
	for _, e := range strangers() {
		if got := outcomes(e, pair(), valuesOf(pair()), rangesOf(pair())); !slices.Equal(got, allRefused) || expr.Valid(e, pair()) {
			t.Errorf("%.200s: %.200q", nodesText(e), got)
		}
	}
	for i, params := range wrongParams() {
		values := slices.Repeat(numbers("1"), len(params))
		ranges := slices.Repeat(spans("0 2"), len(params))
		for _, e := range []api.Expr{of(constant("1", 0)), of(parameter(0)), of(parameter(len(params) - 1))} {
			if got := outcomes(e, params, values, ranges); !slices.Equal(got, allRefused) || expr.Valid(e, params) {
				t.Errorf("parameters %d: %q", i, got)
			}
		}
		if got := exprOutcome(expr.Parse("1", params)); got != refused {
			t.Errorf("parameters %d: %s", i, got)
		}
	}
	if got := outcomes(of(parameter(0)), pair(), valuesOf(pair()), rangesOf(pair())); !slices.Equal(got, []string{"1", "p0", "4 8", "6", "0 1"}) {
		t.Errorf("%q", got)
	}
}

// P8.1: the value of a parameter may be at the end of its range, or all of it.
func TestParamEnds(t *testing.T) {
	for s, want := range map[string]bool{"1 1 1": true, "0 0 2": true, "2 0 2": true, "1/3 33333/100000 1/3": true, "1/3 0 33333/100000": false, "-1 -2 0": true, "-3 -2 0": false, "1/1000000 0 0": false} {
		if got := expr.Valid(of(parameter(0)), []api.Param{length(2, s)}); got != want {
			t.Errorf("%s: %t", s, got)
		}
	}
}

// P8.1: Same compares all nodes, and all fields of them, valid or not.
func TestSame(t *testing.T) {
	if !expr.Same(api.Expr{}, of([]api.ExprNode{}...)) || expr.Same(of(parameter(0)), api.Expr{}) || expr.Same(api.Expr{}, of(api.ExprNode{})) {
		t.Error("empty expressions")
	}
	list := append(append(strangers(), expressions(60, true, 3)...), expressions(60, false, 4)...)
	for i, a := range list {
		for k, b := range list {
			want := len(a.Nodes) == len(b.Nodes) && (i == k || nodesText(a) == nodesText(b))
			if expr.Same(a, b) != want {
				t.Errorf("Same(%.200s, %.200s) = %t", nodesText(a), nodesText(b), !want)
			}
		}
	}
	full := api.ExprNode{Op: 1, Value: api.Ratio{Num: "2", Den: "3"}, Dim: 4, Param: 5, Left: 6, Right: 7}
	for i, change := range []func(n *api.ExprNode){
		func(n *api.ExprNode) { n.Op = 9 }, func(n *api.ExprNode) { n.Value.Num = "9" }, func(n *api.ExprNode) { n.Value.Den = "9" }, func(n *api.ExprNode) { n.Dim = 9 }, func(n *api.ExprNode) { n.Param = 9 }, func(n *api.ExprNode) { n.Left = 9 }, func(n *api.ExprNode) { n.Right = 9 },
	} {
		changed := full
		change(&changed)
		for at := range 3 {
			e := of(full, full, full)
			e.Nodes[at] = changed
			if expr.Same(e, of(full, full, full)) || expr.Same(of(full, full, full), e) || !expr.Same(e, of(slices.Clone(e.Nodes)...)) {
				t.Errorf("change %d at %d", i, at)
			}
		}
	}
}

// P8.1: a constant has no other value than its fraction, however large.
func TestConstants(t *testing.T) {
	for _, r := range largeConstants() {
		for dim := range 4 {
			e := of(api.ExprNode{Op: api.EConst, Value: r, Dim: dim})
			s := rational.Print(r)
			if got := []string{dimOutcome(expr.Dim(e, nil)), numberOutcome(expr.Eval(e, nil, nil)), spanOutcome(expr.Enclose(e, nil, nil))}; !slices.Equal(got, []string{strconv.Itoa(dim), s, s + " " + s}) {
				t.Errorf("%s: %q", s, got)
			}
		}
	}
}

package expr_test

import (
	"math/rand"
	"slices"
	"sort"
	"testing"

	"workpiece/api"
	"workpiece/expr"
	"workpiece/sample"
)

// wantDepends returns what Depends is to return, by the definition of the chapter.
func wantDepends(e api.Expr) []int {
	if len(e.Nodes) == 0 || len(e.Nodes) > 24 {
		return nil
	}
	for i, n := range e.Nodes {
		if n.Op >= 3 && n.Op <= 6 && (min(n.Left, n.Right) < 0 || max(n.Left, n.Right) >= i) {
			return nil
		}
	}
	seen, found := map[int]bool{}, map[int]bool{}
	var need func(i int)
	need = func(i int) {
		if seen[i] {
			return
		}
		seen[i] = true
		switch n := e.Nodes[i]; n.Op {
		case 2:
			found[n.Param] = true
		case 3, 4, 5, 6:
			need(n.Left)
			need(n.Right)
		}
	}
	need(len(e.Nodes) - 1)
	var out []int
	for i := range found {
		out = append(out, i)
	}
	sort.Ints(out)
	return out
}

// checkDepends checks Depends of e.
func checkDepends(t *testing.T, e api.Expr) {
	t.Helper()
	if got, want := expr.Depends(e), wantDepends(e); !slices.Equal(got, want) {
		t.Errorf("Depends(%.300s) = %v instead of %v", nodesText(e), got, want)
	}
}

// P8.1: the parameters that the last node needs, and no others.
func TestDepends(t *testing.T) {
	for i, c := range []struct {
		e    api.Expr
		want []int
	}{
		{of(), nil}, {of(constant("1", 0)), nil}, {of(parameter(5)), []int{5}}, {of(parameter(0), parameter(1)), []int{1}}, {of(parameter(1), constant("1", 0)), nil},
		{of(parameter(7), parameter(3), combined(api.EAdd, 0, 1)), []int{3, 7}}, {of(parameter(3), parameter(3), combined(api.ESub, 0, 1)), []int{3}}, {of(parameter(7), parameter(3), combined(api.EMul, 0, 0)), []int{7}}, {of(parameter(7), parameter(3), combined(api.EDiv, 1, 1)), []int{3}},
		{of(parameter(2), parameter(1), parameter(0), combined(api.EAdd, 0, 1), combined(api.EDiv, 3, 2)), []int{0, 1, 2}}, {of(parameter(2), parameter(1), parameter(0), combined(api.EAdd, 0, 1), combined(api.EDiv, 2, 2)), []int{0}},
		// Whether the expression is valid for parameters makes no difference.
		{of(parameter(-1), parameter(1<<62), combined(api.EMul, 1, 0)), []int{-1, 1 << 62}}, {of(parameter(1<<62), parameter(-1<<63), parameter(1<<62), combined(api.EAdd, 0, 1), combined(api.EAdd, 3, 2)), []int{-1 << 63, 1 << 62}},
		{of(api.ExprNode{Op: api.EParam, Param: 4, Left: 9, Right: -9, Dim: 7, Value: number("1")}), []int{4}}, {of(api.ExprNode{}, api.ExprNode{Op: 7, Left: 9}, parameter(2), combined(api.EAdd, 0, 1), combined(api.EAdd, 2, 3)), []int{2}},
		{of(parameter(2), api.ExprNode{Op: 7}), nil}, {of(parameter(2), api.ExprNode{Op: api.EConst, Left: 0, Param: 2}), nil}, {of(parameter(2), api.ExprNode{Op: 7, Left: 0, Right: 0}, combined(api.EAdd, 1, 1)), nil},
		{of(parameter(2), api.ExprNode{Op: api.EAdd, Param: 6, Dim: -2}), []int{2}},
		// A node with a Left or Right that is not earlier, needed or not.
		{of(combined(api.EAdd, 0, 0)), nil}, {of(combined(api.EAdd, 0, 0), parameter(2)), nil}, {of(parameter(2), combined(api.EMul, 0, 1), parameter(3)), nil}, {of(parameter(2), combined(api.EMul, 2, 0), parameter(3)), nil}, {of(parameter(2), combined(api.EDiv, -1, 0)), nil}, {of(parameter(2), combined(api.ESub, 0, -1), parameter(2)), nil},
	} {
		if got := expr.Depends(c.e); !slices.Equal(got, c.want) {
			t.Errorf("%d: %v", i, got)
		}
		checkDepends(t, c.e)
	}
}

// P8.1: nodes with all operations, valid and others, as the chapter defines it.
func TestDependsDefined(t *testing.T) {
	random := rand.New(rand.NewSource(1))
	found := 0
	for i := range 30000 {
		var e api.Expr
		for k := range 1 + i%26 {
			n := api.ExprNode{Op: random.Intn(8), Param: random.Intn(10) - 1, Left: max(0, k-1-random.Intn(4)), Right: random.Intn(k + 1)}
			if n.Right == k && random.Intn(12) > 0 {
				n.Right = max(0, k-1)
			}
			if random.Intn(3) > 0 && k > 1 {
				n.Op = 3 + random.Intn(4)
			}
			if k == 0 {
				n.Op = 2
			}
			e.Nodes = append(e.Nodes, n)
		}
		checkDepends(t, e)
		if len(expr.Depends(e)) > 1 {
			found++
		}
	}
	if found < 3000 {
		t.Errorf("only %d expressions depend on several parameters", found)
	}
	for _, e := range append(strangers(), append(expressions(600, true, 70), expressions(600, false, 71)...)...) {
		checkDepends(t, e)
	}
}

// P8.1: 24 nodes that double the ways to a parameter each, and more nodes.
func TestDependsSize(t *testing.T) {
	e := of(parameter(3))
	for i := range 30 {
		want := []int{3}
		if len(e.Nodes) > 24 {
			want = nil
		}
		if got := expr.Depends(e); !slices.Equal(got, want) {
			t.Errorf("%d nodes: %v", len(e.Nodes), got)
		}
		e.Nodes = append(e.Nodes, combined(api.EAdd, i, i))
	}
	e = of(slices.Repeat([]api.ExprNode{parameter(3)}, 12)...)
	for i := range 12 {
		e.Nodes[i].Param = 100 - 7*i
		if i > 0 {
			e.Nodes = append(e.Nodes, combined(api.EMul, len(e.Nodes)-i, i))
		}
	}
	checkDepends(t, e)
}

// P8.5: parameters that are not in Depends make no difference.
func TestIndependence(t *testing.T) {
	compared := 0
	for i, e := range append(expressions(1000, true, 80), expressions(1000, false, 81)...) {
		values := changedValues(8, 2, uint64(i))
		r, err := expr.Eval(e, mixed(), values)
		if err != api.OK {
			continue
		}
		for k, other := range sample.Fractions(8, 3, uint64(i)<<8) {
			if slices.Contains(expr.Depends(e), k) {
				continue
			}
			changed := slices.Clone(values)
			changed[k] = other
			s, err := expr.Eval(e, mixed(), changed)
			if err != api.OK {
				continue
			}
			compared++
			if r != s {
				t.Errorf("%s: parameter %d makes a difference", nodesText(e), k)
			}
		}
	}
	if compared < 5000 {
		t.Errorf("only %d values are compared", compared)
	}
}

// P8.5: nor do their dimensions, as long as the expression is valid.
func TestIndependenceOfDimensions(t *testing.T) {
	for _, e := range expressions(300, false, 82) {
		dim, err := expr.Dim(e, mixed())
		for k := range 8 {
			params := mixed()
			params[k] = length((params[k].Dim+1)%4, "3 1 5")
			other, errOther := expr.Dim(e, params)
			if !slices.Contains(expr.Depends(e), k) && errOther == api.OK && (other != dim || err != api.OK) {
				t.Errorf("%s: parameter %d makes a difference", nodesText(e), k)
			}
		}
	}
}

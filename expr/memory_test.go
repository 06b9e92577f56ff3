package expr_test

import (
	"slices"
	"testing"

	"workpiece/api"
	"workpiece/expr"
)

// guarded returns a copy of list with spare capacity, in which marker stands.
func guarded[T any](list []T, marker T) []T {
	out := slices.Repeat([]T{marker}, len(list)+20)
	copy(out, list)
	return out[:len(list)]
}

// intact reports whether the guarded slice is still a copy of list.
func intact[T comparable](slice []T, list []T, marker T) bool {
	return slices.Equal(slice[:cap(slice)], guarded(list, marker)[:len(list)+20])
}

// spoil overwrites list with its spare capacity.
func spoil[T any](list []T, marker T) {
	for i := range list[:cap(list)] {
		list[:cap(list)][i] = marker
	}
}

// P8.1: no function modifies its arguments or their spare capacity, and nothing
// that is written into a result reaches them, or another result.
func TestMemory(t *testing.T) {
	badNode, badRatio := api.ExprNode{Op: 99}, api.Ratio{Num: "marker"}
	badParam, badInterval := api.Param{Dim: 99}, api.Interval{Lo: badRatio}
	values, ranges := valuesOf(mixed()), rangesOf(mixed())
	for i, e := range append(append(expressions(100, true, 95), expressions(100, false, 96)...), of(parameter(1)), of(constant("2", 1)), of(constant("0", 1))) {
		guardedExpr := api.Expr{Nodes: guarded(e.Nodes, badNode)}
		guardedParams, guardedValues, guardedRanges := guarded(mixed(), badParam), guarded(values, badRatio), guarded(ranges, badInterval)
		calls := func() ([]int, []api.Ratio, []api.ExprNode) {
			expr.Valid(guardedExpr, guardedParams)
			expr.Dim(guardedExpr, guardedParams)
			expr.Same(guardedExpr, guardedExpr)
			expr.Eval(guardedExpr, guardedParams, guardedValues)
			expr.Enclose(guardedExpr, guardedParams, guardedRanges)
			p, _ := expr.Poly(guardedExpr, guardedParams, guardedValues, i%2)
			s, _ := expr.Print(guardedExpr, guardedParams)
			parsed, _ := expr.Parse(s, guardedParams)
			return expr.Depends(guardedExpr), p, parsed.Nodes
		}
		depends, p, nodes := calls()
		keptDepends, keptPoly, keptNodes := slices.Clone(depends), slices.Clone(p), slices.Clone(nodes)
		spoil(depends, -99)
		spoil(p, badRatio)
		spoil(nodes, badNode)
		if depends, p, nodes = calls(); !slices.Equal(depends, keptDepends) || !slices.Equal(p, keptPoly) || !slices.Equal(nodes, keptNodes) {
			t.Errorf("%s: other results after the first ones were overwritten", nodesText(e))
		}
		if !intact(guardedExpr.Nodes, e.Nodes, badNode) || !intact(guardedParams, mixed(), badParam) || !intact(guardedValues, values, badRatio) || !intact(guardedRanges, ranges, badInterval) {
			t.Fatalf("arguments are modified for %s", nodesText(e))
		}
	}
}

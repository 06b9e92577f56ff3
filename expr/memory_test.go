package expr_test

import (
	"slices"
	"testing"

	"workpiece/api"
	"workpiece/expr"
	"workpiece/sample"
)

// P8.1: no function modifies its arguments or their spare capacity, and nothing
// that is written into a result reaches them, or another result.
func TestMemory(t *testing.T) {
	badNode, badRatio := api.ExprNode{Op: 99}, api.Ratio{Num: "marker"}
	badParam, badInterval := api.Param{Dim: 99}, api.Interval{Lo: badRatio}
	values, ranges := valuesOf(mixed()), rangesOf(mixed())
	for i, e := range append(append(expressions(100, true, 95), expressions(100, false, 96)...), of(parameter(1)), of(constant("2", 1)), of(constant("0", 1))) {
		guardedExpr := api.Expr{Nodes: sample.Guarded(e.Nodes, badNode)}
		guardedParams, guardedValues, guardedRanges := sample.Guarded(mixed(), badParam), sample.Guarded(values, badRatio), sample.Guarded(ranges, badInterval)
		calls := func() ([]int, []api.Ratio, []api.ExprNode) {
			expr.Valid(guardedExpr, guardedParams)
			expr.Dim(guardedExpr, guardedParams)
			expr.Same(guardedExpr, guardedExpr)
			expr.Eval(guardedExpr, guardedParams, guardedValues)
			expr.Enclose(guardedExpr, guardedParams, guardedRanges)
			p, _ := expr.Poly(guardedExpr, guardedParams, guardedValues, i%2)
			s, _ := expr.Print(guardedExpr, guardedParams)
			parsed, _ := expr.Parse(s, guardedParams)
			return expr.Depends(guardedExpr), p, parsed.Nodes
		}
		depends, p, nodes := calls()
		keptDepends, keptPoly, keptNodes := slices.Clone(depends), slices.Clone(p), slices.Clone(nodes)
		sample.Spoil(depends, -99)
		sample.Spoil(p, api.Ratio{})
		sample.Spoil(nodes, api.ExprNode{})
		if depends, p, nodes = calls(); !slices.Equal(depends, keptDepends) || !slices.Equal(p, keptPoly) || !slices.Equal(nodes, keptNodes) {
			t.Errorf("%s: other results after the first ones were overwritten", nodesText(e))
		}
		if !sample.Intact(guardedExpr.Nodes, e.Nodes, badNode) || !sample.Intact(guardedParams, mixed(), badParam) || !sample.Intact(guardedValues, values, badRatio) || !sample.Intact(guardedRanges, ranges, badInterval) {
			t.Fatalf("arguments are modified for %s", nodesText(e))
		}
	}
}

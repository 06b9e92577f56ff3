package expr

import (
	"workpiece/api"
	"workpiece/enclosure"
	"workpiece/rational"
)

// A node is a node of an expression, with its index in this.
type node struct {
	api.ExprNode
	index int
}

// nodesOf returns the nodes of e.
func nodesOf(e api.Expr) []node {
	var out []node
	for i, n := range e.Nodes {
		out = append(out, node{n, i})
	}
	return out
}

// combines reports whether n is an operation on two other nodes.
func (n node) combines() bool { return n.Op >= api.EAdd && n.Op <= api.EDiv }

// dangles reports whether n is an operation of which Left or Right is no earlier
// node.
func (n node) dangles() bool {
	return n.combines() && (n.Left < 0 || n.Left >= n.index || n.Right < 0 || n.Right >= n.index)
}

// bare returns n without the fields that its operation does not use.
func (n node) bare() api.ExprNode {
	switch {
	case n.combines():
		return api.ExprNode{Op: n.Op, Left: n.Left, Right: n.Right}
	case n.Op == api.EParam:
		return api.ExprNode{Op: n.Op, Param: n.Param}
	}
	return api.ExprNode{Op: n.Op, Value: n.Value, Dim: n.Dim}
}

// check refuses n unless it is a node of an expression over so many parameters,
// whatever its dimension.
func (n node) check(params int) {
	refuseIf(n.ExprNode != n.bare())
	switch n.Op {
	case api.EConst:
		refuseIf(!isDimension(n.Dim) || !rational.Valid(n.Value))
	case api.EParam:
		refuseIf(n.Param < 0 || n.Param >= params)
	default:
		refuseIf(!n.combines() || n.dangles())
	}
}

// isDimension reports whether dim is a dimension that a value can have.
func isDimension(dim int) bool { return dim >= 0 && dim <= api.MaxDim }

// checked returns the dimension of e, which must be valid for params.
func checked(e api.Expr, params []api.Param) int {
	refuseIf(len(params) > api.MaxParams)
	for _, p := range params {
		refuseIf(!isDimension(p.Dim) || !enclosure.Contains(p.Range, p.Value))
	}
	refuseIf(!hasSize(e))
	for _, n := range nodesOf(e) {
		n.check(len(params))
	}
	return dimensions(params).valueOf(e)
}

// hasSize reports whether e has as many nodes as an expression can have.
func hasSize(e api.Expr) bool { return len(e.Nodes) > 0 && len(e.Nodes) <= api.MaxExprNodes }

// checkValues refuses values unless there is a valid one for each parameter.
func checkValues[T any](values []T, params []api.Param, valid func(T) bool) {
	refuseIf(len(values) != len(params))
	for _, v := range values {
		refuseIf(!valid(v))
	}
}

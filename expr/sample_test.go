package expr_test

import (
	"slices"

	"workpiece/api"
	"workpiece/expr"
	"workpiece/sample"
)

// number returns the fraction with the text s.
func number(s string) api.Ratio { return sample.Number(s) }

// numbers returns the fractions whose texts are the words of s.
func numbers(s string) []api.Ratio { return sample.Numbers(s) }

// spans returns the intervals whose ends are the words of s.
func spans(s string) []api.Interval {
	var out []api.Interval
	for ends := range slices.Chunk(numbers(s), 2) {
		out = append(out, api.Interval{Lo: ends[0], Hi: ends[1]})
	}
	return out
}

// length returns a parameter with the dimension dim, and the value and the range
// whose texts are the words of s.
func length(dim int, s string) api.Param {
	words := numbers(s)
	return api.Param{Dim: dim, Value: words[0], Range: api.Interval{Lo: words[1], Hi: words[2]}}
}

// pair returns the parameters of the chapter's examples.
func pair() []api.Param { return []api.Param{length(1, "6 4 8"), length(0, "2 1 3")} }

// mixed returns as many parameters as there can be, of all dimensions.
func mixed() []api.Param {
	return []api.Param{
		length(1, "6 4 8"), length(0, "2 1 3"), length(2, "-1/2 -1/2 0"), length(3, "7/3 0 7/3"),
		length(0, "0 -1 1"), length(1, "1/1000 1/1000 1/1000"), length(0, "5 -100 100"), length(1, "-3 -7/2 5"),
	}
}

// valuesOf returns the values of the parameters.
func valuesOf(params []api.Param) []api.Ratio {
	var out []api.Ratio
	for _, p := range params {
		out = append(out, p.Value)
	}
	return out
}

// rangesOf returns the ranges of the parameters.
func rangesOf(params []api.Param) []api.Interval {
	var out []api.Interval
	for _, p := range params {
		out = append(out, p.Range)
	}
	return out
}

// of returns the expression with the given nodes.
func of(nodes ...api.ExprNode) api.Expr { return api.Expr{Nodes: nodes} }

// constant returns the node of a constant with the text s.
func constant(s string, dim int) api.ExprNode {
	return api.ExprNode{Op: api.EConst, Value: number(s), Dim: dim}
}

// parameter returns the node of the parameter with an index.
func parameter(index int) api.ExprNode { return api.ExprNode{Op: api.EParam, Param: index} }

// combined returns the node of an operation.
func combined(op, left, right int) api.ExprNode {
	return api.ExprNode{Op: op, Left: left, Right: right}
}

// parsed returns the expression with the text s, which must be valid for params.
func parsed(s string, params []api.Param) api.Expr {
	e, err := expr.Parse(s, params)
	if err != api.OK {
		panic("not an expression: " + s)
	}
	return e
}

// A maker makes valid expressions for the parameters, whose constants are among
// the numbers.
type maker struct {
	params  []api.Param
	numbers []api.Ratio
	// shared is whether nodes are used several times, or not at all.
	shared bool
}

// expression returns an expression with up to size nodes, of which the last ones
// are operations.
func (m maker) expression(size int, seed uint64) api.Expr {
	random := sample.Bytes(8*size, seed)
	var e api.Expr
	var dims, open []int
	for i := range size {
		b := random[8*i : 8*i+8]
		n, dim, ok := m.operation(dims, open, b)
		if !ok {
			n, dim = m.leaf(b)
		}
		if ok && !m.shared {
			open = slices.DeleteFunc(open, func(k int) bool { return k == n.Left || k == n.Right })
		}
		e.Nodes, dims, open = append(e.Nodes, n), append(dims, dim), append(open, i)
	}
	return e
}

// leaf returns the node that the bytes b tell, with its dimension.
func (m maker) leaf(b string) (api.ExprNode, int) {
	if b[4]%3 == 0 || len(m.params) == 0 {
		dim := int(b[5]) % 4 * (int(b[6]) % 2)
		return api.ExprNode{Op: api.EConst, Value: m.numbers[int(b[7])%len(m.numbers)], Dim: dim}, dim
	}
	n := parameter(int(b[5]) % len(m.params))
	return n, m.params[n.Param].Dim
}

// operation returns the operation that the bytes b tell on two of the open nodes,
// with its dimension, unless this would not be valid.
func (m maker) operation(dims, open []int, b string) (api.ExprNode, int, bool) {
	if len(open) == 0 || !m.shared && len(open) < 2 || b[0]%4 == 0 {
		return api.ExprNode{}, 0, false
	}
	left := open[len(open)-1-int(b[1])%min(len(open), 3)]
	right := open[len(open)-1-int(b[2])%min(len(open), 4)]
	for k := range 4 {
		op := api.EAdd + (int(b[3])+k)%4
		dim, ok := dimensionOf(op, dims[left], dims[right])
		if ok && (m.shared || left != right) {
			return combined(op, left, right), dim, true
		}
	}
	return api.ExprNode{}, 0, false
}

// expressions returns expressions of all sizes for the parameters mixed.
func expressions(count int, shared bool, seed uint64) []api.Expr {
	m := maker{params: mixed(), numbers: numbers("0 1 2 3 -1 1/2 -7/3 22/7 10 1/1000"), shared: shared}
	var out []api.Expr
	for i := range count {
		out = append(out, m.expression(1+i%api.MaxExprNodes, seed+uint64(i)<<20))
	}
	return out
}

// strangers returns expressions that are not valid for the parameters pair.
func strangers() []api.Expr {
	out := []api.Expr{{}, of([]api.ExprNode{}...), of(api.ExprNode{}), of(parameter(2)), of(parameter(-1)), of(parameter(0), parameter(1), combined(api.EAdd, 0, 1)), of(parameter(1), parameter(0), combined(api.EDiv, 0, 1))}
	for _, size := range []int{api.MaxExprNodes + 1, 100, 1 << 16} {
		out = append(out, of(slices.Repeat([]api.ExprNode{parameter(0)}, size)...))
	}
	for _, r := range sample.InvalidFractions() {
		n := api.ExprNode{Op: api.EConst, Value: r}
		out = append(out, of(n), of(n, parameter(0)), of(parameter(0), n, combined(api.EAdd, 0, 0)))
	}
	return out
}

// wrongParams returns lists of parameters that are not valid, each of which begins
// with a parameter of the dimension 0.
func wrongParams() [][]api.Param {
	fine := length(0, "1 0 2")
	out := [][]api.Param{slices.Repeat([]api.Param{fine}, api.MaxParams+1), slices.Repeat([]api.Param{fine}, 1<<16)}
	wrong := []api.Param{{}, length(-1, "1 0 2"), length(4, "1 0 2"), length(1<<40, "1 0 2"), length(0, "3 0 2"), length(0, "-1/1000 0 2"), length(0, "2001/1000 0 2"), length(0, "1 2 0"), length(0, "1 1 0")}
	for _, r := range sample.InvalidFractions() {
		wrong = append(wrong, api.Param{Value: r, Range: fine.Range}, api.Param{Value: fine.Value, Range: api.Interval{Lo: r, Hi: fine.Range.Hi}}, api.Param{Value: fine.Value, Range: api.Interval{Lo: fine.Range.Lo, Hi: r}}, api.Param{Value: r, Range: api.Interval{Lo: r, Hi: r}})
	}
	for _, p := range wrong {
		out = append(out, []api.Param{fine, p}, append(slices.Repeat([]api.Param{fine}, api.MaxParams-1), p))
	}
	return out
}

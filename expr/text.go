package expr

import (
	"strconv"
	"strings"

	"workpiece/api"
	"workpiece/rational"
)

// maxText is how many bytes the text of an expression has at most.
const maxText = 2000

// units has the text of the unit of each dimension.
var units = [...]string{"", "m", "m2", "m3"}

// signs has the sign of each operation, from EAdd on.
const signs = "+-*/"

// infix returns what stands between the texts on which an operation is done.
func infix(op int) string { return " " + string(signs[op-api.EAdd]) + " " }

// texts returns the algebra of texts. A text that is too long is cut, so that it
// does not grow at each node, but is still too long.
func texts() algebra[string] {
	return algebra[string]{
		constant:  func(n api.ExprNode) string { return rational.Print(n.Value) + units[n.Dim] },
		parameter: parameterText,
		add:       joined(api.EAdd),
		sub:       joined(api.ESub),
		mul:       joined(api.EMul),
		div:       joined(api.EDiv),
	}
}

// parameterText returns the text of the parameter with an index.
func parameterText(index int) string { return "p" + strconv.Itoa(index) }

// joined returns the operation on texts that stands for op.
func joined(op int) operation[string] {
	return func(left string, right string) (string, api.Errno) {
		s := "(" + left + infix(op) + right + ")"
		return s[:min(len(s), maxText+1)], api.OK
	}
}

// A cursor stands in a text before the rest of it.
type cursor struct{ rest string }

// skip moves behind s and reports whether it stands there.
func (c *cursor) skip(s string) (found bool) {
	c.rest, found = strings.CutPrefix(c.rest, s)
	return found
}

// word moves behind what stands before the next space or parenthesis, and returns
// it.
func (c *cursor) word() string {
	end := strings.IndexAny(c.rest, " )")
	if end < 0 {
		end = len(c.rest)
	}
	word := c.rest[:end]
	c.rest = c.rest[end:]
	return word
}

// A parser reads a text and collects the nodes of its expression.
type parser struct {
	cursor
	api.Expr
}

// read reads the text of a node and returns its index.
func (p *parser) read() int {
	if !p.skip("(") {
		return p.collect(leaf(p.word()))
	}
	left := p.read()
	op := p.operation()
	right := p.read()
	refuseIf(!p.skip(")"))
	return p.collect(api.ExprNode{Op: op, Left: left, Right: right})
}

// operation reads what stands between two nodes, and returns the operation.
func (p *parser) operation() int {
	for op := api.EAdd; op <= api.EDiv; op++ {
		if p.skip(infix(op)) {
			return op
		}
	}
	panic(errRefused)
}

// collect makes n the next node and returns its index.
func (p *parser) collect(n api.ExprNode) int {
	p.Nodes = append(p.Nodes, n)
	return len(p.Nodes) - 1
}

// leaf returns the parameter or constant with the text s.
func leaf(s string) api.ExprNode {
	for i := range api.MaxParams {
		if s == parameterText(i) {
			return api.ExprNode{Op: api.EParam, Param: i}
		}
	}
	for dim, unit := range units {
		number, found := strings.CutSuffix(s, unit)
		if r, err := rational.Parse(number); found && err == api.OK {
			return api.ExprNode{Op: api.EConst, Value: r, Dim: dim}
		}
	}
	panic(errRefused)
}

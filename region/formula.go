package region

import (
	"slices"

	"workpiece/api"
)

// shapesOf returns the shapes of the curves of r, and false if r is not valid.
func shapesOf(r api.Region) ([]shape, bool) {
	isLarge := len(r.Curves) > api.MaxCurves || len(r.Nodes) > api.MaxNodes
	if isLarge || len(r.Nodes) == 0 && len(r.Curves) > 0 {
		return nil, false
	}
	for i, n := range r.Nodes {
		if !isNode(n, i, len(r.Curves)) {
			return nil, false
		}
	}
	var out []shape
	for i, c := range r.Curves {
		s, ok := shapeOf(c)
		if !ok || slices.Contains(r.Curves[:i], c) {
			return nil, false
		}
		out = append(out, s)
	}
	return out, true
}

// isNode reports whether n is valid if so many nodes are before it, and there are so
// many curves.
func isNode(n api.RegionNode, before int, curves int) bool {
	isBelow := func(index int, count int) bool { return index >= 0 && index < count }
	switch n.Op {
	case api.RLeaf:
		return isBelow(n.Curve, curves) && n.Left == 0 && n.Right == 0
	case api.RUnion, api.RIntersect, api.RMinus:
		return n.Curve == 0 && isBelow(n.Left, before) && isBelow(n.Right, before)
	}
	return false
}

// A formula has the values of the leaves by their curves, and those of the nodes so far.
type formula struct {
	inside []bool
	values []bool
}

func (f *formula) leaf(n api.RegionNode) bool         { return f.inside[n.Curve] }
func (f *formula) union(n api.RegionNode) bool        { return f.values[n.Left] || f.values[n.Right] }
func (f *formula) intersection(n api.RegionNode) bool { return f.values[n.Left] && f.values[n.Right] }
func (f *formula) difference(n api.RegionNode) bool   { return f.values[n.Left] && !f.values[n.Right] }

// valueOf returns the value of the region with the valid nodes, if the leaf of each
// curve has the value with its index in inside.
func valueOf(nodes []api.RegionNode, inside []bool) bool {
	operations := [...]func(f *formula, n api.RegionNode) bool{
		api.RLeaf:      (*formula).leaf,
		api.RUnion:     (*formula).union,
		api.RIntersect: (*formula).intersection,
		api.RMinus:     (*formula).difference,
	}
	f := formula{inside: inside}
	value := false
	for _, n := range nodes {
		value = operations[n.Op](&f, n)
		f.values = append(f.values, value)
	}
	return value
}

// intersection returns the region that is inside of all curves, of which there is at
// least one.
func intersection(curves ...api.Curve) api.Region {
	r := api.Region{Curves: curves}
	for i := range curves {
		r.Nodes = append(r.Nodes, api.RegionNode{Op: api.RLeaf, Curve: i})
	}
	all := 0
	for leaf := 1; leaf < len(curves); leaf++ {
		r.Nodes = append(r.Nodes, api.RegionNode{Op: api.RIntersect, Left: all, Right: leaf})
		all = len(r.Nodes) - 1
	}
	return r
}

// copied returns a copy of r.
func copied(r api.Region) api.Region {
	return api.Region{Curves: slices.Clone(r.Curves), Nodes: slices.Clone(r.Nodes)}
}

// joined returns the region whose last node combines those of a and b, which have nodes.
// It may have too many curves or nodes.
func joined(op int, a api.Region, b api.Region) api.Region {
	r := copied(a)
	for _, c := range b.Curves {
		if !slices.Contains(r.Curves, c) {
			r.Curves = append(r.Curves, c)
		}
	}
	before := len(a.Nodes)
	for _, n := range b.Nodes {
		if n.Op == api.RLeaf {
			n.Curve = slices.Index(r.Curves, b.Curves[n.Curve])
		} else {
			n.Left += before
			n.Right += before
		}
		r.Nodes = append(r.Nodes, n)
	}
	r.Nodes = append(r.Nodes, api.RegionNode{Op: op, Left: before - 1, Right: len(r.Nodes) - 1})
	return r
}

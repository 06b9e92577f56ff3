package sample

import (
	"slices"
	"strings"

	"workpiece/api"
	"workpiece/rational"
)

// IsCurve reports whether c is valid, by the definition of the chapter on regions.
func IsCurve(c api.Curve) bool {
	isUnit := func(r api.Ratio) bool { return r.Den == "1" && (r.Num == "1" || r.Num == "-1") }
	if !rational.Valid(c.A) || !rational.Valid(c.B) || !rational.Valid(c.C) {
		return false
	}
	switch c.Kind {
	case 1:
		return isUnit(c.A) || c.A.Num == "0" && isUnit(c.B)
	case 2:
		return c.C.Num != "0" && !strings.HasPrefix(c.C.Num, "-")
	}
	return false
}

// isNode reports whether n is valid as the node with the index i, if there are so many
// curves.
func isNode(n api.RegionNode, i int, curves int) bool {
	in := func(index int, count int) bool { return index >= 0 && index < count }
	switch n.Op {
	case 1:
		return n == api.RegionNode{Op: 1, Curve: n.Curve} && in(n.Curve, curves)
	case 2, 3, 4:
		return n == api.RegionNode{Op: n.Op, Left: n.Left, Right: n.Right} && in(n.Left, i) && in(n.Right, i)
	}
	return false
}

// IsRegion reports whether r is valid, by the definition of the chapter on regions.
func IsRegion(r api.Region) bool {
	known := map[api.Curve]bool{}
	for _, c := range r.Curves {
		if !IsCurve(c) || known[c] {
			return false
		}
		known[c] = true
	}
	for i, n := range r.Nodes {
		if !isNode(n, i, len(r.Curves)) {
			return false
		}
	}
	return len(r.Curves) <= 24 && len(r.Nodes) <= 120 && (len(r.Nodes) > 0 || len(r.Curves) == 0)
}

// Curve returns the curve with the text s: line or circle, and its fractions. It panics
// if there is none that is valid.
func Curve(s string) api.Curve {
	kind, rest, _ := strings.Cut(strings.TrimSpace(s), " ")
	list := Numbers(rest)
	c := api.Curve{A: list[0], B: list[1], C: list[2]}
	switch kind {
	case "line":
		c.Kind = api.KLine
	case "circle":
		c.Kind = api.KCircle
	}
	if !IsCurve(c) {
		panic("not a curve: " + s)
	}
	return c
}

// Leaf returns a node that is the leaf of a curve.
func Leaf(curve int) api.RegionNode { return api.RegionNode{Op: api.RLeaf, Curve: curve} }

// Join returns a node that combines two earlier ones.
func Join(op int, left int, right int) api.RegionNode {
	return api.RegionNode{Op: op, Left: left, Right: right}
}

// CurvesOf returns the curves whose texts are the parts of s.
func CurvesOf(s string) []api.Curve {
	var out []api.Curve
	for _, part := range strings.Split(s, ";") {
		if part != "" {
			out = append(out, Curve(part))
		}
	}
	return out
}

// Region returns the region with the curves whose texts are the parts of s, and the
// given nodes.
func Region(s string, nodes ...api.RegionNode) api.Region {
	return api.Region{Curves: CurvesOf(s), Nodes: nodes}
}

// Curves returns count different valid curves, whose fractions are from list, as far as
// they can be. List must have enough of them, and some that are positive.
func Curves(count int, list []api.Ratio, seed uint64) []api.Curve {
	units := Numbers("1 -1")
	var out []api.Curve
	for ; len(out) < count; seed += 1 << 40 {
		random := Bytes(5, seed)
		pick := func(i int) api.Ratio { return list[(int(random[i])+int(random[i+1])<<8)%len(list)] }
		c := api.Curve{Kind: api.KCircle, A: pick(0), B: pick(1), C: pick(2)}
		unit := units[random[3]%2]
		switch random[4] % 8 {
		case 0:
			c.Kind, c.A, c.B = api.KLine, unit, Number("0")
		case 1:
			c.Kind, c.A, c.B = api.KLine, Number("0"), unit
		case 2, 3, 4:
			c.Kind, c.A = api.KLine, unit
		}
		if IsCurve(c) && !slices.Contains(out, c) {
			out = append(out, c)
		}
	}
	return out
}

// Regions returns count valid regions of all sizes, whose curves have fractions from
// list. Not all curves and nodes matter for the value.
func Regions(count int, list []api.Ratio, seed uint64) []api.Region {
	var out []api.Region
	for i := range count {
		own := seed + uint64(i)<<20
		var r api.Region
		if i%25 > 0 {
			r = api.Region{Curves: Curves(i%25, list, own), Nodes: formula(1+i%25+i*7%96, i%25, own)}
		}
		out = append(out, r)
	}
	return out
}

// formula returns so many nodes over so many curves. Each of them mostly combines some
// of the few nodes before it.
func formula(nodes int, curves int, seed uint64) []api.RegionNode {
	random := Bytes(3*nodes, seed)
	var out []api.RegionNode
	for i := range nodes {
		op, one, two := int(random[3*i])%8, int(random[3*i+1]), int(random[3*i+2])
		near := func(b int) int { return max(0, i-1-b%(2+b%7)) }
		if i < 2 || op < 3 {
			out = append(out, Leaf(one%curves))
		} else {
			out = append(out, Join(api.RUnion+op%3, near(one), near(two)))
		}
	}
	return out
}

// InvalidCurves returns curves that are not valid.
func InvalidCurves() []api.Curve {
	one := Number("1")
	var out []api.Curve
	for _, kind := range []int{-1 << 63, -1, 0, 3, 1 << 40} {
		out = append(out, api.Curve{Kind: kind, A: one, B: one, C: one})
	}
	for _, words := range []string{"0 0 1", "2 1 1", "-2 0 1", "1/2 1 1", "0 2 1", "0 -1/2 1", "0 0 0", "-1/3 1 0"} {
		l := Numbers(words)
		out = append(out, api.Curve{Kind: api.KLine, A: l[0], B: l[1], C: l[2]})
	}
	for _, word := range []string{"0", "-1", "-1/1000000", "-" + Nines()} {
		out = append(out, api.Curve{Kind: api.KCircle, A: one, B: one, C: Number(word)})
	}
	for _, wrong := range InvalidFractions() {
		for i := range 3 {
			for kind := api.KLine; kind <= api.KCircle; kind++ {
				c := api.Curve{Kind: kind, A: one, B: one, C: one}
				*[]*api.Ratio{&c.A, &c.B, &c.C}[i] = wrong
				out = append(out, c)
			}
		}
	}
	return out
}

// InvalidRegions returns regions that are not valid: they have too many curves or nodes,
// curves without nodes, equal curves, or a curve or a node that is not valid.
func InvalidRegions() []api.Region {
	small := SmallFractions(5)
	many := Curves(25, small, 1)
	out := []api.Region{{Curves: many[:1]}, {Curves: many[:24]}, {Curves: many, Nodes: []api.RegionNode{Leaf(0)}}, {Curves: many}}
	for _, count := range []int{121, 1 << 16} {
		out = append(out, api.Region{Curves: many[:1], Nodes: slices.Repeat([]api.RegionNode{Leaf(0)}, count)})
	}
	changed := func(change func(r *api.Region)) {
		r := api.Region{Curves: slices.Clone(many[:5]), Nodes: formula(9, 5, 7)}
		change(&r)
		out = append(out, r)
	}
	for i := range 5 {
		changed(func(r *api.Region) { r.Curves[i] = r.Curves[(i+1+i%4)%5] })
		changed(func(r *api.Region) { r.Curves[i] = InvalidCurves()[i] })
	}
	for _, c := range InvalidCurves() {
		changed(func(r *api.Region) { r.Curves[len(out)%5] = c })
	}
	for i, n := range []api.RegionNode{{}, {Op: 5}, {Op: -1}, {Op: 1 << 40}, {Op: -1 << 63}, Leaf(-1), Leaf(5), Leaf(1 << 40), Leaf(-1 << 63), {Op: 1, Left: 1}, {Op: 1, Right: 1}, {Op: 1, Left: -1}, {Op: 2, Curve: 1}, {Op: 3, Curve: -1}, {Op: 4, Curve: 1}, {Curve: 1}} {
		changed(func(r *api.Region) { r.Nodes[i%9] = n })
		changed(func(r *api.Region) { r.Nodes[8] = n })
	}
	for op := api.RUnion; op <= api.RMinus; op++ {
		for i := range 9 {
			for _, wrong := range []int{-1, i, i + 1, 9, 1 << 40, -1 << 63} {
				changed(func(r *api.Region) { r.Nodes[i] = Join(op, wrong, 0) })
				changed(func(r *api.Region) { r.Nodes[i] = Join(op, 0, wrong) })
			}
		}
	}
	return out
}

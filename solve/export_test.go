package solve

import "workpiece/api"

// The numbers of a sketch are short, so that there are hardly any for which one formula
// is too large and another one, with the same value, is not. What is exported here lets
// the tests give numbers of any size to each formula.

// A Locus is a line (a, b, c) or a circle (u, v, R).
type Locus struct {
	IsLine  bool
	Numbers [3][]api.Ratio
}

// branchOf returns the branch with the given points.
func branchOf(t api.Tower, points [][2][]api.Ratio) branch {
	b := branch{field: field{t}}
	for _, p := range points {
		b.points = append(b.points, point{p[0], p[1]})
	}
	return b
}

// LocusOf returns the locus of the point with the index by c.
func LocusOf(t api.Tower, points [][2][]api.Ratio, index int, c api.Constraint) (Locus, api.Errno) {
	return attempt(func() Locus {
		found := branchOf(t, points).locus(index, c)
		if k, ok := found.(circle); ok {
			return Locus{false, [3][]api.Ratio{k.center.x, k.center.y, k.square}}
		}
		l := found.(line)
		return Locus{true, [3][]api.Ratio{l.a, l.b, l.c}}
	})
}

// PositionOf returns the position of the point with the index, which c determines.
func PositionOf(t api.Tower, points [][2][]api.Ratio, index int, c api.Constraint) ([2][]api.Ratio, api.Errno) {
	return attempt(func() [2][]api.Ratio {
		p := branchOf(t, points).position(index, c)
		return [2][]api.Ratio{p.x, p.y}
	})
}

// CrossingOf returns the points that two loci have in common, with their tower.
func CrossingOf(t api.Tower, first Locus, second Locus) (api.Solution, api.Errno) {
	return attempt(func() api.Solution {
		found := first.locus().crossing(field{t}, second.locus())
		x := api.Solution{Tower: found.Tower}
		for _, p := range found.points {
			x.Points = append(x.Points, [2][]api.Ratio{p.x, p.y})
		}
		return x
	})
}

func (l Locus) locus() locus {
	if l.IsLine {
		return line{l.Numbers[0], l.Numbers[1], l.Numbers[2]}
	}
	return circle{point{l.Numbers[0], l.Numbers[1]}, l.Numbers[2]}
}

package sample

import (
	"slices"

	"workpiece/api"
	"workpiece/rational"
)

// Constructions returns count valid sketches all of whose points can be placed: in
// some order, each point is tied to points before it by one constraint that
// determines it, or by two loci. A few sketches have a further constraint. The
// constraints are in some order, too.
func Constructions(count int, seed uint64) []api.Sketch {
	var out []api.Sketch
	for i := range count {
		own := seed + uint64(i)<<20
		s := api.Sketch{Points: 1 + i%api.MaxPoints}
		for p := range s.Points {
			s.Constraints = append(s.Constraints, placing(p, own+uint64(p)<<10)...)
		}
		if i%5 == 0 && len(s.Constraints) < api.MaxConstraints {
			s.Constraints = append(s.Constraints, Constraint(s.Points, own))
		}
		out = append(out, Mixed(s, own))
	}
	return out
}

// placing returns constraints by which the point p can be placed when those before
// it are.
func placing(p int, seed uint64) []api.Constraint {
	isFree := Bytes(1, seed)[0]%8 < 5
	var loci []api.Constraint
	for ; len(loci) < 2; seed++ {
		c := Newest(p, seed)
		switch {
		case c.Kind == api.CFix && p > 1 && isFree:
			// There are no more fixed points than others need.
		case c.Kind == api.CFix || c.Kind == api.CMidpoint:
			return []api.Constraint{c}
		case IsLocus(c, p) && !slices.ContainsFunc(loci, func(other api.Constraint) bool { return isParallel(c, other) }):
			loci = append(loci, c)
		}
	}
	return loci
}

// IsLocus reports whether c is a locus of the point p when the other points that it
// uses are placed.
func IsLocus(c api.Constraint, p int) bool {
	isCurve := c.Kind != api.CFix && c.Kind != api.CMidpoint
	others := slices.DeleteFunc(Indices(c), func(i int) bool { return i == p })
	return isCurve && len(others) == len(Indices(c))-1
}

// isParallel reports whether the loci by c and other are parallel.
func isParallel(c api.Constraint, other api.Constraint) bool {
	return c.Kind == other.Kind && (c.Kind == api.CHorizontal || c.Kind == api.CVertical)
}

// Mixed returns s with other numbers of the points, and another order of the
// constraints.
func Mixed(s api.Sketch, seed uint64) api.Sketch {
	points := Shuffled(s.Points, seed)
	out := api.Sketch{Points: s.Points}
	for _, c := range Reordered(s.Constraints, Shuffled(len(s.Constraints), seed+1)) {
		out.Constraints = append(out.Constraints, Renumbered(c, points))
	}
	return out
}

// Lengthened returns s with positions and lengths that are a little greater: their Den
// has up to length digits more. Those that would not be short stay as they are.
func Lengthened(s api.Sketch, length int, seed uint64) api.Sketch {
	out := api.Sketch{Points: s.Points}
	for i, c := range s.Constraints {
		longer := func(r api.Ratio, k int) api.Ratio {
			den := Digits(1+(i+k)%length, seed+uint64(4*i+k))
			if sum, err := rational.Add(r, Fraction("1", den)); err == api.OK && IsShort(sum) {
				return sum
			}
			return r
		}
		switch c.Kind {
		case api.CFix:
			c.X, c.Y = longer(c.X, 0), longer(c.Y, 1)
		case api.CDistance:
			c.Value = longer(c.Value, 2)
		}
		out.Constraints = append(out.Constraints, c)
	}
	return out
}

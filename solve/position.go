package solve

import (
	"workpiece/api"
	"workpiece/rational"
)

// positions returns the positions that the step has for its point.
func (b branch) positions(step api.Step, constraints []api.Constraint) crossing {
	first := constraints[step.First]
	if step.Second < 0 {
		return b.at(b.position(step.Point, first))
	}
	second := constraints[step.Second]
	return b.locus(step.Point, first).crossing(b.field, b.locus(step.Point, second))
}

// others returns the points with the given indices, without that with the index.
func (b branch) others(index int, indices ...int) []point {
	var out []point
	for _, i := range indices {
		if i != index {
			out = append(out, b.points[i])
		}
	}
	return out
}

// other returns the one of two points that does not have the index.
func (b branch) other(index int, p int, q int) point { return b.others(index, p, q)[0] }

// position returns the position of the point with the index, which c determines.
func (b branch) position(index int, c api.Constraint) point {
	switch {
	case c.Kind == api.CFix:
		return point{b.constant(c.X), b.constant(c.Y)}
	case c.P == index:
		q, r := b.points[c.Q], b.points[c.R]
		return point{b.middle(q.x, r.x), b.middle(q.y, r.y)}
	}
	middle, end := b.points[c.P], b.other(index, c.Q, c.R)
	return point{b.minus(b.twice(middle.x), end.x), b.minus(b.twice(middle.y), end.y)}
}

// middle returns half of the sum of x and y.
func (f field) middle(x number, y number) number { return f.times(f.constant(half), f.plus(x, y)) }

// locus returns the locus of the point with the index by c.
func (b branch) locus(index int, c api.Constraint) locus {
	switch c.Kind {
	case api.CDistance:
		return circle{b.other(index, c.P, c.Q), b.constant(must(rational.Mul(c.Value, c.Value)))}
	case api.CHorizontal:
		return line{b.constant(zero), b.constant(one), b.negative(b.other(index, c.P, c.Q).y)}
	case api.CVertical:
		return line{b.constant(one), b.constant(zero), b.negative(b.other(index, c.P, c.Q).x)}
	case api.COnLine:
		ends := b.others(index, c.P, c.Q, c.R)
		return b.lineThrough(ends[0], ends[1])
	case api.CPerpendicular:
		if index == c.P || index == c.Q {
			return b.perpendicular(b.other(index, c.P, c.Q), b.points[c.R], b.points[c.S])
		}
		return b.perpendicular(b.other(index, c.R, c.S), b.points[c.P], b.points[c.Q])
	}
	if c.P == index {
		return b.bisector(b.points[c.Q], b.points[c.R])
	}
	center := b.points[c.P]
	return circle{center, b.squareDistance(center, b.other(index, c.Q, c.R))}
}

// lineThrough returns the line through two points.
func (f field) lineThrough(p point, q point) line {
	return f.lineAt(p, f.minus(q.y, p.y), f.minus(p.x, q.x))
}

// perpendicular returns the line through at that is perpendicular to the line from p
// to q.
func (f field) perpendicular(at point, p point, q point) line {
	return f.lineAt(at, f.minus(q.x, p.x), f.minus(q.y, p.y))
}

// lineAt returns the line through p with the given a and b.
func (f field) lineAt(p point, a number, b number) line {
	return line{a, b, f.negative(f.plus(f.times(p.x, a), f.times(p.y, b)))}
}

// bisector returns the line of the points that have the same distance from p and q.
func (f field) bisector(p point, q point) line {
	a, b := f.twice(f.minus(q.x, p.x)), f.twice(f.minus(q.y, p.y))
	c := f.minus(f.plus(f.squared(p.x), f.squared(p.y)), f.squared(q.x), f.squared(q.y))
	return line{a, b, c}
}

// squareDistance returns the square of the distance of p and q.
func (f field) squareDistance(p point, q point) number {
	return f.plus(f.squared(f.minus(p.x, q.x)), f.squared(f.minus(p.y, q.y)))
}

package region

import (
	"workpiece/api"
	"workpiece/rational"
)

// An edge is a side of a polygon: it leads from (px, py) to (px + u, py + v).
type edge struct {
	px, py api.Ratio
	u, v   api.Ratio
}

// edge returns the edge between two points.
func (e *exact) edge(from [2]api.Ratio, to [2]api.Ratio) edge {
	return edge{from[0], from[1], e.minus(to[0], from[0]), e.minus(to[1], from[1])}
}

// refuseRight makes e fail unless the point is on the left of d.
func (e *exact) refuseRight(d edge, point [2]api.Ratio) {
	left := e.minus(e.times(d.u, e.minus(point[1], d.py)), e.times(d.v, e.minus(point[0], d.px)))
	e.refuseIf(rational.Compare(left, zero) <= 0)
}

// lineAlong returns the line on which d is, with the left of d inside.
func (e *exact) lineAlong(d edge) api.Curve {
	a, b := d.v, e.negated(d.u)
	c := e.minus(e.times(d.v, d.px), e.times(d.u, d.py))
	divisor := e.size(a)
	if a == zero {
		divisor = e.size(b)
	}
	return api.Curve{Kind: api.KLine, A: e.over(a, divisor), B: e.over(b, divisor), C: e.over(c, divisor)}
}

// linesAround returns the lines of all edges of a polygon.
func (e *exact) linesAround(points [][2]api.Ratio) []api.Curve {
	var out []api.Curve
	for i, from := range points {
		next := (i + 1) % len(points)
		d := e.edge(from, points[next])
		for k, point := range points {
			// What would be calculated for the ends can be too large.
			if k != i && k != next {
				e.refuseRight(d, point)
			}
		}
		out = append(out, e.lineAlong(d))
	}
	return out
}

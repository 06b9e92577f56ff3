package region

import (
	"slices"

	"workpiece/api"
	"workpiece/rational"
)

// A shape is a valid curve. What its methods calculate means nothing if e fails.
type shape interface {
	// side returns the Side of a point.
	side(e *exact, x api.Ratio, y api.Ratio) int
	// moved returns the curve, translated by (dx, dy).
	moved(e *exact, dx api.Ratio, dy api.Ratio) api.Curve
	// mirrored returns the curve, reflected in the vertical line through x.
	mirrored(e *exact, x api.Ratio) api.Curve
}

// A line is a valid curve of the kind KLine.
type line struct{ api.Curve }

// A circle is a valid curve of the kind KCircle.
type circle struct{ api.Curve }

// shapeOf returns the shape of c, and false if c is not valid.
func shapeOf(c api.Curve) (shape, bool) {
	if !rational.Valid(c.A) || !rational.Valid(c.B) || !rational.Valid(c.C) {
		return nil, false
	}
	first := c.A
	if first == zero {
		first = c.B
	}
	switch {
	case c.Kind == api.KLine && (first == one || first == minusOne):
		return line{c}, true
	case c.Kind == api.KCircle && rational.Compare(c.C, zero) > 0:
		return circle{c}, true
	}
	return nil, false
}

func (l line) side(e *exact, x api.Ratio, y api.Ratio) int {
	return rational.Compare(l.C, e.plus(e.times(l.A, x), e.times(l.B, y)))
}

func (c circle) side(e *exact, x api.Ratio, y api.Ratio) int {
	dx, dy := e.minus(x, c.A), e.minus(y, c.B)
	return rational.Compare(c.C, e.plus(e.times(dx, dx), e.times(dy, dy)))
}

func (l line) moved(e *exact, dx api.Ratio, dy api.Ratio) api.Curve {
	l.C = e.plus(e.plus(l.C, e.times(l.A, dx)), e.times(l.B, dy))
	return l.Curve
}

func (c circle) moved(e *exact, dx api.Ratio, dy api.Ratio) api.Curve {
	c.A, c.B = e.plus(c.A, dx), e.plus(c.B, dy)
	return c.Curve
}

func (l line) mirrored(e *exact, x api.Ratio) api.Curve {
	l.C = e.minus(l.C, e.times(e.plus(x, x), l.A))
	l.A = e.negated(l.A)
	return l.Curve
}

func (c circle) mirrored(e *exact, x api.Ratio) api.Curve {
	c.A = e.minus(e.plus(x, x), c.A)
	return c.Curve
}

// transformed returns r with each curve changed.
func transformed(e *exact, r api.Region, change func(s shape) api.Curve) (api.Region, api.Errno) {
	shapes, ok := shapesOf(r)
	if !ok {
		return api.Region{}, api.ErrRegion
	}
	out := api.Region{Nodes: slices.Clone(r.Nodes)}
	for _, s := range shapes {
		out.Curves = append(out.Curves, change(s))
	}
	return finished(e, out)
}

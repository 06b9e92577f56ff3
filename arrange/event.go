package arrange

import (
	"iter"

	"workpiece/api"
	"workpiece/rational"
)

// An event is an event with its position.
type event struct {
	api.Event
	number
}

// order returns the sign of the position of e minus that of other.
func (e event) order(other event) int { return e.compare(other.number) }

// events yields all events of curves, in the order of One, Two and Which.
func events(curves []api.Curve) iter.Seq[event] {
	return func(yield func(event) bool) {
		for i := range curves {
			for k := i; k < len(curves); k++ {
				for which, position := range positions(curves, i, k) {
					if !yield(event{api.Event{One: i, Two: k, Which: which}, position}) {
						return
					}
				}
			}
		}
	}
}

// positions returns the positions of the events of the curves i and k, in the order of
// Which.
func positions(curves []api.Curve, i int, k int) []number {
	left, right := curves[i], curves[k]
	switch {
	case i == k:
		return ends(left)
	case isVertical(left) || isVertical(right):
		return nil
	case left.Kind == api.KCircle && right.Kind == api.KCircle:
		return circle{left}.withCircle(circle{right})
	case left.Kind == api.KCircle:
		return line{right}.withCircle(circle{left})
	case right.Kind == api.KCircle:
		return line{left}.withCircle(circle{right})
	}
	return line{left}.withLine(line{right})
}

// isVertical reports whether c is a vertical line.
func isVertical(c api.Curve) bool { return c.Kind == api.KLine && c.B == zero }

// ends returns the abscissas of the leftmost and the rightmost point of a circle, the
// one of a vertical line, and none of another line.
func ends(c api.Curve) []number {
	switch {
	case c.Kind == api.KCircle:
		return around(c.A, one, c.C)
	case isVertical(c):
		return []number{fraction(over(c.C, c.A))}
	}
	return nil
}

// A line consists of the points with A * x + B * y = C, and is not vertical. It need not
// be a valid curve.
type line struct{ api.Curve }

// A circle consists of the points that are as far from (A, B) as the square root of C.
type circle struct{ api.Curve }

// withLine returns the abscissa of the point that l has in common with other, unless they
// are parallel.
func (l line) withLine(other line) []number {
	divisor := minus(times(l.A, other.B), times(other.A, l.B))
	if divisor == zero {
		return nil
	}
	return []number{fraction(over(minus(times(l.C, other.B), times(other.C, l.B)), divisor))}
}

// withCircle returns the abscissas of the points that l has in common with c.
func (l line) withCircle(c circle) []number {
	a, b, p := l.A, l.B, c.A
	m := plus(times(a, a), times(b, b))
	k := minus(l.C, times(c.B, b))
	h := plus(times(b, b, p), times(a, k))
	// The abscissas are the solutions x of m * x * x - 2 * h * x + rest = 0.
	rest := minus(plus(times(b, b, p, p), times(k, k)), times(c.C, b, b))
	d := minus(times(h, h), times(m, rest))
	switch rational.Compare(d, zero) {
	case 0:
		return []number{fraction(over(h, m))}
	case 1:
		return around(over(h, m), over(one, m), d)
	}
	return nil
}

// withCircle returns the abscissas of the points that c has in common with other, unless
// both have the same center.
func (c circle) withCircle(other circle) []number {
	if c.A == other.A && c.B == other.B {
		return nil
	}
	chord := c.chord(other)
	if chord.B != zero {
		return chord.withCircle(c)
	}
	x := over(chord.C, chord.A)
	away := minus(x, c.A)
	if rational.Compare(times(away, away), c.C) > 0 {
		return nil
	}
	return []number{fraction(x)}
}

// chord returns the line on which the points are that c has in common with other. It is
// vertical if the centers have the same ordinate.
func (c circle) chord(other circle) line {
	squares := minus(plus(minus(c.C, other.C), times(other.A, other.A)), times(c.A, c.A))
	return line{api.Curve{
		A: times(two, minus(other.A, c.A)),
		B: times(two, minus(other.B, c.B)),
		C: minus(plus(squares, times(other.B, other.B)), times(c.B, c.B)),
	}}
}

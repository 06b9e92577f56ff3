package region_test

import (
	"fmt"
	"math/big"
	"slices"
	"strconv"

	"workpiece/api"
	"workpiece/rational"
	"workpiece/sample"
)

// refused is the outcome of a call that returns ErrRegion.
var refused = sample.Failure(api.ErrRegion)

// text returns a text of all fields of r, in which nil and empty are equal.
func text(r api.Region) string { return fmt.Sprintf("%v %v", quoted(r.Curves), r.Nodes) }

// quoted returns the fields of the curves, of which no two lists have the same text.
func quoted(curves []api.Curve) []string {
	var out []string
	for _, c := range curves {
		out = append(out, fmt.Sprintf("%d %q %q %q", c.Kind, c.A, c.B, c.C))
	}
	return out
}

// regionOutcome returns the text of a resulting region, or the error.
func regionOutcome(r api.Region, err api.Errno) string {
	return sample.Outcome(text(r), len(r.Curves) == 0 && len(r.Nodes) == 0, err)
}

// sideOutcome returns the text of what Side returns.
func sideOutcome(side int, err api.Errno) string {
	return sample.Outcome(strconv.Itoa(side), side == 0, err)
}

// truth returns the text of what Contains or Evaluate returns.
func truth(value bool, err api.Errno) string {
	return sample.Outcome(strconv.FormatBool(value), !value, err)
}

// value returns the value of the valid fraction r.
func value(r api.Ratio) *big.Rat {
	v, ok := new(big.Rat).SetString(r.Num + "/" + r.Den)
	if !ok {
		panic("not a fraction: " + r.Num + "/" + r.Den)
	}
	return v
}

func plus(a, b *big.Rat) *big.Rat  { return new(big.Rat).Add(a, b) }
func minus(a, b *big.Rat) *big.Rat { return new(big.Rat).Sub(a, b) }
func times(a, b *big.Rat) *big.Rat { return new(big.Rat).Mul(a, b) }

// square returns the square of the distance of two points.
func square(x0, y0, x1, y1 *big.Rat) *big.Rat {
	dx, dy := minus(x0, x1), minus(y0, y1)
	return plus(times(dx, dx), times(dy, dy))
}

// exactSide returns the Side of a point that a valid curve has by its definition,
// whatever is too large.
func exactSide(c api.Curve, x, y api.Ratio) int {
	a, b, bound := value(c.A), value(c.B), value(c.C)
	if c.Kind == api.KCircle {
		return bound.Cmp(square(value(x), value(y), a, b))
	}
	return bound.Cmp(plus(times(a, value(x)), times(b, value(y))))
}

// tooLarge is what the reference panics with.
const tooLarge = "too large"

// exact returns value. It panics if that is too large.
func exact(value api.Ratio, err api.Errno) api.Ratio {
	if err != api.OK {
		panic(tooLarge)
	}
	return value
}

func add(a, b api.Ratio) api.Ratio { return exact(rational.Add(a, b)) }
func sub(a, b api.Ratio) api.Ratio { return exact(rational.Sub(a, b)) }
func mul(a, b api.Ratio) api.Ratio { return exact(rational.Mul(a, b)) }
func div(a, b api.Ratio) api.Ratio { return exact(rational.Div(a, b)) }

// negative returns 0 minus r.
func negative(r api.Ratio) api.Ratio { return sub(number("0"), r) }

// sign returns the sign of r.
func sign(r api.Ratio) int { return rational.Compare(r, number("0")) }

// outcome returns what calculate returns, or refused if a number is too large.
func outcome(calculate func() string) (out string) {
	defer func() {
		switch cause := recover(); cause {
		case nil:
		case tooLarge:
			out = refused
		default:
			panic(cause)
		}
	}()
	return calculate()
}

// areFractions reports whether all of list are valid.
func areFractions(list ...api.Ratio) bool {
	return !slices.ContainsFunc(list, func(r api.Ratio) bool { return !rational.Valid(r) })
}

// sideOf returns the Side of a point as the chapter computes it.
func sideOf(c api.Curve, x, y api.Ratio) int {
	if c.Kind == api.KLine {
		return rational.Compare(c.C, add(mul(c.A, x), mul(c.B, y)))
	}
	dx, dy := sub(x, c.A), sub(y, c.B)
	return rational.Compare(c.C, add(mul(dx, dx), mul(dy, dy)))
}

// wantSide returns the outcome of Side.
func wantSide(c api.Curve, x, y api.Ratio) string {
	if !sample.IsCurve(c) || !areFractions(x, y) {
		return refused
	}
	return outcome(func() string { return strconv.Itoa(sideOf(c, x, y)) })
}

// valueOf returns the value of the valid region r, by the table of the chapter.
func valueOf(r api.Region, inside []bool) bool {
	values := []bool{}
	for _, n := range r.Nodes {
		switch n.Op {
		case 1:
			values = append(values, inside[n.Curve])
		case 2:
			values = append(values, values[n.Left] || values[n.Right])
		case 3:
			values = append(values, values[n.Left] && values[n.Right])
		case 4:
			values = append(values, values[n.Left] && !values[n.Right])
		}
	}
	return len(values) > 0 && values[len(values)-1]
}

// wantContains returns the outcome of Contains.
func wantContains(r api.Region, x, y api.Ratio) string {
	if !sample.IsRegion(r) || !areFractions(x, y) {
		return refused
	}
	return outcome(func() string {
		var inside []bool
		for _, c := range r.Curves {
			inside = append(inside, sideOf(c, x, y) >= 0)
		}
		return strconv.FormatBool(valueOf(r, inside))
	})
}

// wantEvaluate returns the outcome of Evaluate.
func wantEvaluate(r api.Region, inside []bool) string {
	if !sample.IsRegion(r) || len(inside) != len(r.Curves) {
		return refused
	}
	return strconv.FormatBool(valueOf(r, inside))
}

// within returns the region with the curves whose nodes are their leaves and
// intersections, as the chapter lists them.
func within(curves ...api.Curve) api.Region {
	r := api.Region{Curves: curves}
	for i := range curves {
		r.Nodes = append(r.Nodes, sample.Leaf(i))
	}
	for i := 1; i < len(curves); i++ {
		before := len(r.Nodes) - 1
		if i == 1 {
			before = 0
		}
		r.Nodes = append(r.Nodes, sample.Join(api.RIntersect, before, i))
	}
	return r
}

// wantRectangle returns the outcome of Rectangle.
func wantRectangle(x0, y0, x1, y1 api.Ratio) string {
	if !areFractions(x0, y0, x1, y1) || rational.Compare(x0, x1) >= 0 || rational.Compare(y0, y1) >= 0 {
		return refused
	}
	lines := sample.CurvesOf("line -1 0 0; line 1 0 0; line 0 -1 0; line 0 1 0")
	for i, bound := range []api.Ratio{negative(x0), x1, negative(y0), y1} {
		lines[i].C = bound
	}
	return text(within(lines...))
}

// wantDisc returns the outcome of Disc.
func wantDisc(x, y, r api.Ratio) string {
	if !areFractions(x, y, r) || sign(r) <= 0 {
		return refused
	}
	return outcome(func() string { return text(within(api.Curve{Kind: 2, A: x, B: y, C: mul(r, r)})) })
}

// wantPolygon returns the outcome of Polygon.
func wantPolygon(points [][2]api.Ratio) string {
	isNone := func(p [2]api.Ratio) bool { return !areFractions(p[0], p[1]) }
	if len(points) < 3 || len(points) > 24 || slices.ContainsFunc(points, isNone) {
		return refused
	}
	return outcome(func() string {
		var lines []api.Curve
		for i, p := range points {
			end := (i + 1) % len(points)
			u, v := sub(points[end][0], p[0]), sub(points[end][1], p[1])
			for k, q := range points {
				if k != i && k != end && sign(sub(mul(u, sub(q[1], p[1])), mul(v, sub(q[0], p[0])))) != 1 {
					return refused
				}
			}
			a, b, c := v, negative(u), sub(mul(v, p[0]), mul(u, p[1]))
			by := a
			if sign(a) == 0 {
				by = b
			}
			if sign(by) < 0 {
				by = negative(by)
			}
			lines = append(lines, api.Curve{Kind: 1, A: div(a, by), B: div(b, by), C: div(c, by)})
		}
		return text(within(lines...))
	})
}

// wantCombine returns the outcome of Combine.
func wantCombine(op int, a, b api.Region) string {
	switch {
	case op < 2 || op > 4 || !sample.IsRegion(a) || !sample.IsRegion(b):
		return refused
	case len(b.Nodes) == 0 && op == api.RIntersect:
		return text(api.Region{})
	case len(b.Nodes) == 0:
		return text(a)
	case len(a.Nodes) == 0 && op == api.RUnion:
		return text(b)
	case len(a.Nodes) == 0:
		return text(api.Region{})
	}
	var r api.Region
	numbers := map[api.Curve]int{}
	for _, c := range slices.Concat(a.Curves, b.Curves) {
		if _, known := numbers[c]; !known {
			numbers[c] = len(r.Curves)
			r.Curves = append(r.Curves, c)
		}
	}
	last := len(a.Nodes) - 1
	r.Nodes = append(r.Nodes, a.Nodes...)
	for _, n := range b.Nodes {
		if n.Op == 1 {
			r.Nodes = append(r.Nodes, sample.Leaf(numbers[b.Curves[n.Curve]]))
		} else {
			r.Nodes = append(r.Nodes, sample.Join(n.Op, last+1+n.Left, last+1+n.Right))
		}
	}
	r.Nodes = append(r.Nodes, sample.Join(op, last, last+len(b.Nodes)))
	if len(r.Curves) > 24 || len(r.Nodes) > 120 {
		return refused
	}
	return text(r)
}

// wantMove returns the outcome of Move.
func wantMove(r api.Region, dx, dy api.Ratio) string {
	return wantChanged(r, func(c api.Curve) api.Curve {
		if c.Kind == api.KLine {
			return api.Curve{Kind: 1, A: c.A, B: c.B, C: add(add(c.C, mul(c.A, dx)), mul(c.B, dy))}
		}
		return api.Curve{Kind: 2, A: add(c.A, dx), B: add(c.B, dy), C: c.C}
	}, dx, dy)
}

// wantMirror returns the outcome of Mirror.
func wantMirror(r api.Region, x api.Ratio) string {
	return wantChanged(r, func(c api.Curve) api.Curve {
		if c.Kind == api.KLine {
			return api.Curve{Kind: 1, A: negative(c.A), B: c.B, C: sub(c.C, mul(add(x, x), c.A))}
		}
		return api.Curve{Kind: 2, A: sub(add(x, x), c.A), B: c.B, C: c.C}
	}, x)
}

// wantChanged returns the outcome of a function that changes the curves of r by the
// numbers.
func wantChanged(r api.Region, change func(c api.Curve) api.Curve, numbers ...api.Ratio) string {
	if !sample.IsRegion(r) || !areFractions(numbers...) {
		return refused
	}
	return outcome(func() string {
		out := api.Region{Nodes: r.Nodes}
		for _, c := range r.Curves {
			out.Curves = append(out.Curves, change(c))
		}
		return text(out)
	})
}

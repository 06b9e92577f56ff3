package solve

import "slices"

// A crossing is the points that two loci have in common, in ascending order, and
// the field of their coordinates.
type crossing struct {
	field
	points []point
}

// at returns the crossing of loci that have these points of f in common.
func (f field) at(points ...point) crossing { return crossing{f, points} }

// A locus is a line or a circle on which a point is, with numbers of f. Of two loci,
// the first one asks the second one for their crossing, which knows then what both
// of them are.
type locus interface {
	crossing(f field, second locus) crossing
	afterLine(f field, first line) crossing
	afterCircle(f field, first circle) crossing
}

// A line consists of the points with a * x + b * y + c = 0.
type line struct {
	a number
	b number
	c number
}

// A circle consists of the points with the given square of their distance from the
// center.
type circle struct {
	center point
	square number
}

func (l line) crossing(f field, second locus) crossing      { return second.afterLine(f, l) }
func (l line) afterLine(f field, first line) crossing       { return f.ofLines(first, l) }
func (l line) afterCircle(f field, first circle) crossing   { return f.ofLineAndCircle(l, first) }
func (k circle) crossing(f field, second locus) crossing    { return second.afterCircle(f, k) }
func (k circle) afterLine(f field, first line) crossing     { return f.ofLineAndCircle(first, k) }
func (k circle) afterCircle(f field, first circle) crossing { return f.ofCircles(first, k) }

// isDegenerate reports whether l is no line at all: its equation holds everywhere
// or nowhere.
func (f field) isDegenerate(l line) bool { return f.sign(l.a) == 0 && f.sign(l.b) == 0 }

// isNowhere reports whether the equation of the degenerate line l holds nowhere.
func (f field) isNowhere(l line) bool { return f.sign(l.c) != 0 }

// ofLines returns the crossing of two lines.
func (f field) ofLines(first line, second line) crossing {
	firstIsDegenerate, secondIsDegenerate := f.isDegenerate(first), f.isDegenerate(second)
	if firstIsDegenerate || secondIsDegenerate {
		isNone := firstIsDegenerate && f.isNowhere(first) || secondIsDegenerate && f.isNowhere(second)
		refuseIf(!isNone)
		return f.at()
	}
	minor := func(s number, t number, u number, v number) number { return f.minus(f.times(s, t), f.times(u, v)) }
	d := minor(first.a, second.b, second.a, first.b)
	p := minor(first.b, second.c, second.b, first.c)
	q := minor(first.c, second.a, second.c, first.a)
	if f.sign(d) == 0 {
		refuseIf(f.sign(p) == 0 && f.sign(q) == 0)
		return f.at()
	}
	overD := f.dividingBy(d)
	return f.at(point{overD(p), overD(q)})
}

// ofLineAndCircle returns the crossing of a line and a circle. The foot of the
// perpendicular from the center to the line is calculated even if there is none,
// since it may be too large.
func (f field) ofLineAndCircle(l line, k circle) crossing {
	if f.isDegenerate(l) {
		refuseIf(!f.isNowhere(l))
		return f.at()
	}
	m := f.plus(f.squared(l.a), f.squared(l.b))
	e := f.plus(f.times(l.a, k.center.x), f.times(l.b, k.center.y), l.c)
	d := f.minus(f.times(k.square, m), f.squared(e))
	overM := f.dividingBy(m)
	foot := point{
		f.minus(k.center.x, overM(f.times(l.a, e))),
		f.minus(k.center.y, overM(f.times(l.b, e))),
	}
	switch f.sign(d) {
	case -1:
		return f.at()
	case 0:
		return f.at(foot)
	}
	return f.ofSecant(l, foot, m, d)
}

// ofSecant returns the crossing of the line l and a circle, on both sides of the
// foot. Their distance from it is the square root of d / m.
func (f field) ofSecant(l line, foot point, m number, d number) crossing {
	root, wide := f.root(d)
	overM := wide.dividingBy(wide.embedded(m))
	dx := overM(wide.times(wide.embedded(l.b), root))
	dy := overM(wide.times(wide.embedded(l.a), root))
	x, y := wide.embedded(foot.x), wide.embedded(foot.y)
	points := []point{
		{wide.plus(x, dx), wide.minus(y, dy)},
		{wide.minus(x, dx), wide.plus(y, dy)},
	}
	slices.SortFunc(points, wide.order)
	return wide.at(points...)
}

// ofCircles returns the crossing of two circles, which is that of the first one and
// the line through the common points.
func (f field) ofCircles(first circle, second circle) crossing {
	from, to := first.center, second.center
	dx, dy := f.minus(to.x, from.x), f.minus(to.y, from.y)
	if f.sign(dx) == 0 && f.sign(dy) == 0 {
		refuseIf(f.sign(f.minus(first.square, second.square)) == 0)
		return f.at()
	}
	c := f.plus(f.squared(from.x), f.squared(from.y))
	c = f.minus(c, first.square, f.squared(to.x), f.squared(to.y))
	c = f.plus(c, second.square)
	return f.ofLineAndCircle(line{f.twice(dx), f.twice(dy), c}, first)
}

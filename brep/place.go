package brep

import (
	"workpiece/api"
	"workpiece/arrange"
	"workpiece/rational"
	"workpiece/region"
	"workpiece/tower"
)

// A place is where a point is among curves: the index of its strip, and that of its cell
// in the strip.
type place struct{ strip, index int }

// placesOf returns the places of the sample points of cells among curves, of which no two
// have the same points.
func placesOf(curves []api.Curve, cells []api.Cell) []place {
	list := positionsOf(curves)
	var out []place
	for i, c := range cells {
		var at place
		if i > 0 && cells[i-1].X == c.X {
			at.strip = out[i-1].strip
		} else {
			at.strip = countLess(list, c.X)
		}
		for _, curve := range curves {
			at.index += branchesBelow(curve, c.X, c.Y)
		}
		out = append(out, at)
	}
	return out
}

// A position is the abscissa of an event.
type position struct {
	tower   api.Tower
	element []api.Ratio
}

// positionsOf returns the positions of the events of curves.
func positionsOf(curves []api.Curve) []position {
	var out []position
	for _, e := range must(arrange.Events(curves)) {
		t, element, err := arrange.Position(curves, e)
		refuseIf(err != api.OK)
		out = append(out, position{t, element})
	}
	return out
}

// countLess returns how many of the positions are less than x.
func countLess(list []position, x api.Ratio) int {
	count := 0
	for _, p := range list {
		if must(tower.Compare(p.tower, p.element, must(tower.FromRatio(p.tower, x)))) < 0 {
			count++
		}
	}
	return count
}

// branchesBelow returns at how many points with the abscissa x the curve is below (x, y).
func branchesBelow(c api.Curve, x, y api.Ratio) int {
	if c.Kind == api.KCircle {
		return arcsBelow(c, x, y)
	}
	if isVertical(c) {
		return 0
	}
	// What is not a fraction cannot be compared with one.
	refuseIf(!rational.Valid(y))
	if isLess(over(minus(c.C, times(c.A, x)), c.B), y) {
		return 1
	}
	return 0
}

// arcsBelow returns at how many points with the abscissa x the circle is below (x, y).
func arcsBelow(circle api.Curve, x, y api.Ratio) int {
	if must(region.Side(circle, x, y)) == 1 {
		return 1
	}
	away := minus(x, circle.A)
	if isLess(times(away, away), circle.C) && isLess(circle.B, y) {
		return 2
	}
	return 0
}

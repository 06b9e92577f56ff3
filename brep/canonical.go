package brep

import (
	"cmp"
	"slices"

	"workpiece/api"
	"workpiece/arrange"
	"workpiece/rational"
)

// reduced returns the canonical representation for the well-formed representation b.
func reduced(b api.Brep) api.Brep {
	levels, curves := bounds(b)
	out := api.Brep{Curves: curves, Cells: must(arrange.Cells(curves))}
	places := placesOf(curves, b.Cells)
	var sources []int
	for _, c := range out.Cells {
		source := slices.Index(places, place{c.Strip, c.Index})
		refuseIf(source < 0)
		sources = append(sources, source)
	}
	for _, level := range levels {
		out.Levels = append(out.Levels, b.Levels[level])
	}
	for _, level := range levels[:max(0, len(levels)-1)] {
		var slab api.Slab
		for _, source := range sources {
			slab.Inside = append(slab.Inside, b.Slabs[level].Inside[source])
		}
		out.Slabs = append(out.Slabs, slab)
	}
	return out
}

// bounds returns the indices of the levels of b that have a face, and the curves that have
// one, in ascending order.
func bounds(b api.Brep) ([]int, []api.Curve) {
	var levels []int
	var curves []api.Curve
	for _, f := range facesOf(b) {
		if f.Kind == api.FWall {
			curves = append(curves, positive(b.Curves[f.Curve]))
		} else {
			levels = append(levels, f.Level)
		}
	}
	slices.SortFunc(curves, compareCurves)
	return slices.Compact(levels), slices.Compact(curves)
}

// positive returns c, or the line with the same points and a positive first coefficient.
func positive(c api.Curve) api.Curve {
	if c.Kind == api.KLine && isLess(leading(c), zero) {
		c.A, c.B, c.C = minus(zero, c.A), minus(zero, c.B), minus(zero, c.C)
	}
	return c
}

// compareCurves returns the sign of c minus d, by Kind, A, B and C.
func compareCurves(c, d api.Curve) int {
	return cmp.Or(cmp.Compare(c.Kind, d.Kind), rational.Compare(c.A, d.A), rational.Compare(c.B, d.B), rational.Compare(c.C, d.C))
}

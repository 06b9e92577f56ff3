package brep

import (
	"slices"

	"workpiece/api"
	"workpiece/arrange"
	"workpiece/solid"
)

// built returns the representation of the valid solid s.
func built(s api.Solid) api.Brep {
	out := api.Brep{Levels: solid.Levels(s), Curves: curvesOf(s)}
	out.Cells = must(arrange.Cells(out.Curves))
	for i := 1; i < len(out.Levels); i++ {
		middle := over(plus(out.Levels[i-1], out.Levels[i]), two)
		var slab api.Slab
		for _, cell := range out.Cells {
			slab.Inside = append(slab.Inside, must(solid.Contains(s, cell.X, cell.Y, middle)))
		}
		out.Slabs = append(out.Slabs, slab)
	}
	return out
}

// curvesOf returns the curves of all prisms of s, each once.
func curvesOf(s api.Solid) []api.Curve {
	var out []api.Curve
	for _, p := range s.Prisms {
		for _, c := range p.Region.Curves {
			if !slices.Contains(out, c) {
				out = append(out, c)
			}
		}
	}
	return out
}

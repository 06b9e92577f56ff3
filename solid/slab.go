package solid

import (
	"iter"
	"slices"

	"workpiece/api"
	"workpiece/rational"
	"workpiece/region"
)

var two = api.Ratio{Num: "2", Den: "1"}

// levelsOf returns the heights at which prisms of the valid solids begin or end, in
// ascending order.
func levelsOf(solids ...api.Solid) []api.Ratio {
	var out []api.Ratio
	for _, s := range solids {
		for _, p := range s.Prisms {
			out = append(out, p.Lo, p.Hi)
		}
	}
	slices.SortFunc(out, rational.Compare)
	return slices.Compact(out)
}

// sectionOf returns the section of the valid solid s at the height z.
func sectionOf(s api.Solid, z api.Ratio) api.Region {
	var out api.Region
	for p := range prismsAt(s, z) {
		op := api.RUnion
		if p.Cut {
			op = api.RMinus
		}
		out = must(region.Combine(op, out, p.Region))
	}
	return out
}

// A slab lies between two successive levels of two solids, inA and inB are their
// sections at its middle.
type slab struct {
	lo, middle, hi api.Ratio
	inA, inB       api.Region
}

// slabs yields the slabs between the levels of the valid solids a and b, in ascending
// order.
func slabs(a, b api.Solid) iter.Seq[slab] {
	return func(yield func(slab) bool) {
		levels := levelsOf(a, b)
		for i := 1; i < len(levels); i++ {
			lo, hi := levels[i-1], levels[i]
			middle := must(rational.Div(must(rational.Add(lo, hi)), two))
			if !yield(slab{lo, middle, hi, sectionOf(a, middle), sectionOf(b, middle)}) {
				return
			}
		}
	}
}

// combined returns the solid whose sections are made from those of the valid solids a
// and b by operate.
func combined(a, b api.Solid, operate func(inA, inB api.Region) api.Region) api.Solid {
	var out api.Solid
	for s := range slabs(a, b) {
		if r := operate(s.inA, s.inB); len(r.Nodes) > 0 {
			out.Prisms = stacked(out.Prisms, api.Prism{Region: r, Lo: s.lo, Hi: s.hi})
		}
	}
	return out
}

package sample

import (
	"slices"

	"workpiece/api"
)

// Marks are what stands where nothing is to be written to.
var (
	markRatio = api.Ratio{Num: "marker"}
	markCurve = api.Curve{Kind: 99}
	markNode  = api.RegionNode{Op: 99}
	markPrism = api.Prism{Feature: 99}
	markCell  = api.Cell{Strip: 99}
)

// GuardedRegion returns a copy of r with spare capacity, in which marks stand.
func GuardedRegion(r api.Region) api.Region {
	return api.Region{Curves: Guarded(r.Curves, markCurve), Nodes: Guarded(r.Nodes, markNode)}
}

// IntactRegion reports whether the guarded region is still a copy of r.
func IntactRegion(guarded api.Region, r api.Region) bool {
	return Intact(guarded.Curves, r.Curves, markCurve) && Intact(guarded.Nodes, r.Nodes, markNode)
}

// GuardedSolid returns a copy of s with spare capacity everywhere, in which marks stand.
func GuardedSolid(s api.Solid) api.Solid {
	out := api.Solid{Prisms: Guarded(s.Prisms, markPrism)}
	for i, p := range s.Prisms {
		out.Prisms[i].Region = GuardedRegion(p.Region)
	}
	return out
}

// IntactSolid reports whether the guarded solid is still a copy of s.
func IntactSolid(guarded api.Solid, s api.Solid) bool {
	if !isIntact(guarded.Prisms, s.Prisms, markPrism, samePrism) {
		return false
	}
	for i, p := range s.Prisms {
		if !IntactRegion(guarded.Prisms[i].Region, p.Region) {
			return false
		}
	}
	return true
}

// samePrism reports whether all fields of p and q are equal.
func samePrism(p, q api.Prism) bool {
	return slices.Equal(p.Region.Curves, q.Region.Curves) && slices.Equal(p.Region.Nodes, q.Region.Nodes) &&
		p.Lo == q.Lo && p.Hi == q.Hi && p.Cut == q.Cut && p.Feature == q.Feature
}

// GuardedBrep returns a copy of b with spare capacity everywhere, in which marks stand.
func GuardedBrep(b api.Brep) api.Brep {
	out := api.Brep{
		Levels: Guarded(b.Levels, markRatio), Curves: Guarded(b.Curves, markCurve),
		Cells: Guarded(b.Cells, markCell), Slabs: Guarded(b.Slabs, markSlab()),
	}
	for i, s := range b.Slabs {
		out.Slabs[i].Inside = Guarded(s.Inside, true)
	}
	return out
}

// markSlab is a mark as well, but it has a slice.
func markSlab() api.Slab { return api.Slab{Inside: []bool{true, false, true}} }

// IntactBrep reports whether the guarded representation is still a copy of b.
func IntactBrep(guarded api.Brep, b api.Brep) bool {
	sameSlab := func(s, t api.Slab) bool { return slices.Equal(s.Inside, t.Inside) }
	if !Intact(guarded.Levels, b.Levels, markRatio) || !Intact(guarded.Curves, b.Curves, markCurve) ||
		!Intact(guarded.Cells, b.Cells, markCell) || !isIntact(guarded.Slabs, b.Slabs, markSlab(), sameSlab) {
		return false
	}
	for i, s := range b.Slabs {
		if !Intact(guarded.Slabs[i].Inside, s.Inside, true) {
			return false
		}
	}
	return true
}

package brep

import (
	"iter"
	"slices"

	"workpiece/api"
)

// facesOf returns the faces of the well-formed representation b.
func facesOf(b api.Brep) []api.Face {
	var list []api.Face
	for level := range b.Levels {
		bottom, top := horizontal(b, level)
		list = append(list, bottom, top)
	}
	parts := slices.Collect(borders(b))
	for curve := range b.Curves {
		list = append(list, wall(b, curve, parts))
	}
	return slices.DeleteFunc(list, func(f api.Face) bool { return len(f.Pieces) == 0 })
}

// horizontal returns the faces at a level.
func horizontal(b api.Brep, level int) (api.Face, api.Face) {
	bottom, top := api.Face{Kind: api.FBottom, Level: level}, api.Face{Kind: api.FTop, Level: level}
	for cell, isInside := range changes(slabAt(b, level-1), slabAt(b, level)) {
		if isInside {
			bottom.Pieces = append(bottom.Pieces, [2]int{level, cell})
		} else {
			top.Pieces = append(top.Pieces, [2]int{level - 1, cell})
		}
	}
	return bottom, top
}

// slabAt returns which cells are inside in the slab i: none below the first one, and
// above the last one.
func slabAt(b api.Brep, i int) []bool {
	if i < 0 || i >= len(b.Slabs) {
		return make([]bool, len(b.Cells))
	}
	return b.Slabs[i].Inside
}

// changes yields the items of a list that are not those of another list of the same
// length, with their indices.
func changes[T comparable](before, after []T) iter.Seq2[int, T] {
	return func(yield func(int, T) bool) {
		for i, item := range after {
			if item != before[i] && !yield(i, item) {
				return
			}
		}
	}
}

// wall returns the wall of a curve, given the parts of all curves.
func wall(b api.Brep, curve int, parts []border) api.Face {
	out := api.Face{Kind: api.FWall, Curve: curve}
	// Several parts of a vertical line can be beside the same cell.
	known := map[[2]int]bool{}
	for i, slab := range b.Slabs {
		for _, part := range parts {
			piece := [2]int{i, part.cell}
			isPiece := part.curve == curve && slab.Inside[part.cell] != slab.Inside[part.next]
			if isPiece && !known[piece] {
				known[piece] = true
				out.Pieces = append(out.Pieces, piece)
			}
		}
	}
	return out
}

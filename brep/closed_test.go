package brep_test

import (
	"slices"
	"testing"

	"workpiece/api"
	"workpiece/brep"
	"workpiece/sample"
)

// P16.1: many representations, and others that are no representations of solids.
func TestClosed(t *testing.T) {
	t.Parallel()
	count := map[bool]int{}
	list := representations(solids(40, 41))
	for _, b := range slices.Concat(list, handmade(list, 500, 42), malformed()) {
		got, want := brep.Closed(b), wantClosed(b)
		if got != want {
			t.Errorf("Closed(%.1500s) = %t", text(b), got)
		}
		count[got]++
	}
	if count[false] < 200 || count[true] < 200 {
		t.Error(count)
	}
}

// strips returns cells with the given Strips.
func strips(list ...int) []api.Cell {
	var out []api.Cell
	for _, s := range list {
		out = append(out, api.Cell{Strip: s})
	}
	return out
}

// P16.1: each cell by itself is bounded or not; the cells of a strip need not follow each
// other, and need not be valid.
func TestClosedCells(t *testing.T) {
	least, most := -1<<63, 1<<63-1
	for i, c := range []struct {
		cells   []api.Cell
		bounded []int
	}{
		{strips(), nil}, {strips(0), nil}, {strips(0, 0, 0), nil}, {strips(0, 1), nil}, {strips(0, 1, 2), nil}, {strips(0, 1, 1, 2), nil}, {strips(0, 1, 1, 1, 2), []int{2}}, {strips(0, 1, 1, 1, 1, 2), []int{2, 3}}, {strips(1, 1, 1, 2), nil}, {strips(0, 1, 1, 1), nil}, {strips(1, 1, 1, 0, 2), []int{1}}, {strips(0, 2, 1, 1, 1), []int{3}}, {strips(2, 1, 1, 1, 0), []int{2}},
		{strips(0, 1, 2, 1, 2), nil}, {strips(0, 1, 1, 2, 1, 1, 2), nil}, {strips(0, 1, 1, 2, 1, 1, 1, 2), []int{5}}, {strips(0, 0, 0, 5, 5, 5, 9, 9, 9), []int{4}}, {strips(9, 9, 9, 5, 5, 5, 0, 0, 0), []int{4}}, {strips(0, 0, 0, 4, 4, 4, 5, 5, 5, 5, 9), []int{4, 7, 8}},
		{strips(least, 0, 0, 0, most), []int{2}}, {strips(most, 0, 0, 0, least), []int{2}}, {strips(least, least, least, most, most, most), nil}, {strips(-3, -2, -2, -2, -1), []int{2}}, {strips(1, 1, 1, least, most), []int{1}}, {strips(-1, -1, -1, most, least), []int{1}}, {strips(least+1, least+1, least+1, least, most), []int{1}}, {strips(most-1, most-1, most-1, most, least), []int{1}},
	} {
		b := api.Brep{Levels: few[:1], Cells: c.cells}
		if !brep.Closed(b) {
			t.Errorf("%d: a representation without slabs is not closed", i)
		}
		b.Levels, b.Slabs = sample.Numbers("0 1 2"), make([]api.Slab, 2)
		for k := range c.cells {
			for slab := range 2 {
				for s := range b.Slabs {
					b.Slabs[s].Inside = make([]bool, len(c.cells))
				}
				b.Slabs[slab].Inside[k] = true
				if got := brep.Closed(b); got != slices.Contains(c.bounded, k) {
					t.Errorf("%d: Closed with cell %d in slab %d is %t", i, k, slab, got)
				}
			}
		}
	}
}

// P16.1: the solid of the examples, and others.
func TestClosedKnown(t *testing.T) {
	for s, want := range map[string]bool{
		"": true, "add 0 3 rectangle 0 0 4 4; cut 1 5 disc 2 2 1": true, "add 0 1 line 1 0 0": false, "add 0 1 line 1 0 0; cut 0 1 line 1 0 0": true, "cut 0 1 line 1 0 0": true, "add 0 1 line 1 0 0; cut 1/2 1 line 1 0 0": false, "add 0 1 line 1 0 0; cut 0 1/2 line 1 0 0": false,
		"add 0 1 line 0 1 0": false, "add 0 1 line 1 1 0": false, "add 0 1 line 1 0 0; cut 0 1 line 0 1 0; cut 0 1 line 0 -1 0": true, "add 0 1 circle 0 0 2": true, "add 0 1 line 1 0 0; add 0 1 line -1 0 0": false, "add 0 1 line 0 1 1; cut 0 1 line 0 1 0": false, "add 0 1 line 1 0 1; cut 0 1 line 1 0 0": false, "add 0 1 polygon 0 0 1 0 0 1": true,
	} {
		if got := brep.Closed(built(sample.Solid(s))); got != want {
			t.Errorf("Closed(%s) = %t", s, got)
		}
	}
}

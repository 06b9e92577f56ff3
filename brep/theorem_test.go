package brep_test

import (
	"fmt"
	"slices"
	"testing"

	"workpiece/api"
	"workpiece/arrange"
	"workpiece/brep"
	"workpiece/rational"
	"workpiece/region"
	"workpiece/sample"
	"workpiece/solid"
)

// contains reports whether s contains a point. It panics if that is too large.
func contains(s api.Solid, x, y, z api.Ratio) bool {
	return sample.Needed(solid.Contains(s, x, y, z))
}

// plus returns the sum of a and b.
func plus(a, b api.Ratio) api.Ratio { return sample.Needed(rational.Add(a, b)) }

// P16.2: the representation of a solid contains the same points as the solid, unless they
// are at a level or on a curve.
func TestMembership(t *testing.T) {
	t.Parallel()
	count := map[string]int{}
	for i, m := range models(solids(60, 71)) {
		s, b := m.Solid, m.rep
		points := sample.PointsNear(20, uint64(i))
		heights := append(middles(s), fraction("-9"), fraction("9"), fraction("7/5"))
		for k := range min(len(b.Cells), 20) {
			one, two := b.Cells[(k*7+i)%len(b.Cells)], b.Cells[(k*5+3)%len(b.Cells)]
			points = append(points, [3]api.Ratio{one.X, one.Y, heights[k%len(heights)]}, [3]api.Ratio{half(one.X, two.X), half(one.Y, two.Y), heights[(k+i)%len(heights)]})
		}
		for _, p := range points {
			want := map[bool]string{false: "0", true: "1"}[contains(s, p[0], p[1], p[2])]
			if isOnCurve(b.Curves, p[0], p[1]) || slices.Contains(b.Levels, p[2]) {
				want = "-1"
			}
			if got := membership(brep.Contains(b, p[0], p[1], p[2])); got != want {
				t.Errorf("Contains(%.900s; %s) = %s instead of %s", text(b), words(p[:]...), got, want)
			}
			count[want]++
		}
	}
	if count["-1"] < 500 || count["0"] < 500 || count["1"] < 200 {
		t.Error(count)
	}
}

// heightsOf returns for each slab of s its middle, and before and after them a height
// below and one above the solid.
func heightsOf(s api.Solid) []api.Ratio {
	levels := solid.Levels(s)
	if len(levels) == 0 {
		return nil
	}
	out := append([]api.Ratio{plus(levels[0], fraction("-1"))}, middles(s)...)
	return append(out, plus(levels[len(levels)-1], fraction("1")))
}

// P16.3: a bottom has inside above and outside below it, a top the other way round; there
// is one wherever two slabs differ, and as many tops as bottoms above every cell.
func TestHorizontalFaces(t *testing.T) {
	t.Parallel()
	count := 0
	for _, m := range models(solids(60, 72)) {
		s, b := m.Solid, m.rep
		heights := heightsOf(s)
		var pieces [][3]int
		for _, f := range sample.Needed(brep.Faces(b)) {
			for _, p := range f.Pieces {
				if f.Kind == api.FBottom && p[0] != f.Level || f.Kind == api.FTop && p[0] != f.Level-1 {
					t.Errorf("a piece %v of %v", p, f)
				}
				if f.Kind != api.FWall {
					pieces = append(pieces, [3]int{f.Level, p[1], f.Kind})
				}
			}
		}
		for k, cell := range b.Cells {
			bottoms, tops := 0, 0
			for level := range b.Levels {
				below, above := contains(s, cell.X, cell.Y, heights[level]), contains(s, cell.X, cell.Y, heights[level+1])
				isBottom, isTop := slices.Contains(pieces, [3]int{level, k, api.FBottom}), slices.Contains(pieces, [3]int{level, k, api.FTop})
				if isBottom != (above && !below) || isTop != (below && !above) {
					t.Errorf("%.900s: cell %d at level %d: %t, %t", text(b), k, level, isBottom, isTop)
				}
				if isBottom {
					bottoms++
				}
				if isTop {
					tops++
				}
			}
			if bottoms != tops {
				t.Errorf("%.900s: cell %d has %d bottoms and %d tops", text(b), k, bottoms, tops)
			}
			count += tops
		}
		if slices.SortFunc(pieces, func(p, q [3]int) int { return slices.Compare(p[:], q[:]) }); len(slices.Compact(pieces)) != len(pieces) {
			t.Errorf("%.900s: a piece that is there twice", text(b))
		}
	}
	if count < 300 {
		t.Error(count)
	}
}

// beside returns points on both sides of the first line at a point that is on no other
// line or circle, so near to it that no other curve is between them.
func beside(curves []api.Curve, line api.Curve, y api.Ratio) (left, right api.Ratio) {
	x := sample.Needed(rational.Div(line.C, line.A))
	for by := fraction("1"); ; by = half(by, fraction("0")) {
		left, right = sample.Needed(rational.Sub(x, by)), plus(x, by)
		isNear := func(c api.Curve) bool {
			side := sample.Needed(region.Side(c, x, y))
			return side == 0 || side == sample.Needed(region.Side(c, left, y)) && side == sample.Needed(region.Side(c, right, y))
		}
		if !slices.ContainsFunc(curves, func(c api.Curve) bool { return !isNear(c) }) {
			return left, right
		}
	}
}

// verticalPieces returns the pieces that the walls of vertical lines must have: for all
// parts of each line, and all slabs, if only one side is inside.
func verticalPieces(s api.Solid, b api.Brep) [][3]int {
	var out [][3]int
	var parts []api.Ratio
	for _, cell := range cellsOf(wantTransposed(b.Curves)) {
		parts = append(parts, cell.X)
	}
	parts = slices.Compact(parts)
	for c, line := range b.Curves {
		isSame := func(other api.Curve) bool { return turned(other) == turned(line) }
		if !isVertical(line) || slices.IndexFunc(b.Curves, isSame) < c {
			continue
		}
		for _, y := range parts {
			left, right := beside(b.Curves, line, y)
			for i, z := range middles(s) {
				if contains(s, left, y, z) != contains(s, right, y, z) {
					out = append(out, [3]int{c, i, sample.Needed(arrange.Locate(b.Curves, b.Cells, left, y))})
				}
			}
		}
	}
	return out
}

// uprightPieces returns the pieces that the other walls must have: wherever two cells of a
// strip differ.
func uprightPieces(s api.Solid, b api.Brep) [][3]int {
	var out [][3]int
	for k := range max(0, len(b.Cells)-1) {
		below, above := b.Cells[k], b.Cells[k+1]
		if below.Strip != above.Strip {
			continue
		}
		c := slices.IndexFunc(b.Curves, func(c api.Curve) bool {
			return sample.Needed(region.Side(c, below.X, below.Y)) != sample.Needed(region.Side(c, above.X, above.Y))
		})
		for i, z := range middles(s) {
			if contains(s, below.X, below.Y, z) != contains(s, above.X, above.Y, z) {
				out = append(out, [3]int{c, i, k})
			}
		}
	}
	return out
}

// P16.3: every piece of a wall has inside on one side, and outside on the other one, and
// there is a piece wherever that is so.
func TestWalls(t *testing.T) {
	t.Parallel()
	count := map[bool]int{}
	compare := func(p, q [3]int) int { return slices.Compare(p[:], q[:]) }
	for _, m := range models(solids(60, 73)) {
		s, b := m.Solid, m.rep
		var got [][3]int
		for _, f := range sample.Needed(brep.Faces(b)) {
			for _, p := range f.Pieces {
				if f.Kind == api.FWall {
					got = append(got, [3]int{f.Curve, p[0], p[1]})
					count[isVertical(b.Curves[f.Curve])]++
				}
			}
		}
		want := append(uprightPieces(s, b), verticalPieces(s, b)...)
		slices.SortFunc(got, compare)
		slices.SortFunc(want, compare)
		if want = slices.Compact(want); !slices.Equal(got, want) {
			t.Errorf("%.1500s: walls %v instead of %v", text(b), got, want)
		}
	}
	if count[true] < 200 || count[false] < 300 {
		t.Error(count)
	}
}

// P16.4: exchanging x and y changes neither the horizontal faces nor the number of walls.
func TestTransposed(t *testing.T) {
	t.Parallel()
	count := 0
	shapes := func(b api.Brep) (out []string) {
		for _, f := range sample.Needed(brep.Faces(b)) {
			level := api.Ratio{}
			if f.Kind != api.FWall {
				level = b.Levels[f.Level]
			}
			out = append(out, fmt.Sprint(f.Kind, level))
			count++
		}
		return out
	}
	for _, m := range models(solids(60, 74)) {
		for _, other := range models([]api.Solid{transposedSolid(m.Solid)}) {
			if got, want := shapes(other.rep), shapes(m.rep); !slices.Equal(got, want) {
				t.Errorf("%s: %q, and exchanged: %q", solidText(m.Solid), want, got)
			}
		}
	}
	if count < 800 {
		t.Error(count)
	}
}

// divided returns s with prisms that are divided at heights between their ends, so that it
// contains the same points.
func divided(s api.Solid, seed int) api.Solid {
	var out api.Solid
	for i, p := range s.Prisms {
		below, above := p, p
		at := sample.Heights()[(seed+i)%9]
		if rational.Compare(p.Lo, at) < 0 && rational.Compare(at, p.Hi) < 0 {
			below.Hi, above.Lo = at, at
			out.Prisms = append(out.Prisms, below)
		}
		out.Prisms = append(out.Prisms, above)
	}
	return out
}

// after returns s after prisms that are added and cut again, so that it contains the same
// points.
func after(other, s api.Solid) api.Solid {
	out := api.Solid{Prisms: slices.Clone(other.Prisms)}
	for _, p := range other.Prisms {
		p.Cut = true
		out.Prisms = append(out.Prisms, p)
	}
	out.Prisms = append(out.Prisms, s.Prisms...)
	return out
}

// P16.5: two solids contain the same points, but for those at levels and on curves, exactly
// if their canonical representations are the same.
func TestCanonicalForms(t *testing.T) {
	t.Parallel()
	count := map[string]int{}
	check := func(a, b api.Solid) {
		equal, p, err := solid.Equal(a, b)
		pair := models([]api.Solid{a, b})
		if err != api.OK || len(pair) < 2 {
			count["refused"]++
			return
		}
		if got := brep.Same(canonical(pair[0].rep), canonical(pair[1].rep)); got != equal {
			t.Errorf("the canonical representations of %s and %s are the same: %t, but %s", solidText(a), solidText(b), got, words(p[:]...))
		}
		count[fmt.Sprint("equal ", equal)]++
	}
	list := append(known(), shaped(12, 3, 75)...)
	for i, a := range list {
		b, c := list[(i*7+3)%len(list)], shaped(4, 3, uint64(i))[3]
		check(a, b)
		check(a, divided(a, i))
		check(a, divided(divided(a, i+1), i))
		check(after(c, a), a)
		check(a, after(divided(c, i), a))
		op := api.RUnion + i%3
		one, err := solid.Combine(op, a, b)
		other, errOther := solid.Combine(op, b, a)
		if err == api.OK && errOther == api.OK {
			check(one, other)
			check(one, a)
		}
	}
	if count["equal true"] < 120 || count["equal false"] < 40 {
		t.Error(count)
	}
}

// P16.5: solids with the same points that are made of other prisms, and with curves and
// levels that matter for one of them only.
func TestCanonicalEqual(t *testing.T) {
	for i, list := range [][]string{
		{"", "cut 0 1 disc 0 0 1", "add 0 1 disc 0 0 1; cut 0 1 disc 0 0 1", "add 0 1 disc 0 0 1; cut 0 1/2 disc 0 0 2; cut 1/2 2 line 1 0 1"},
		{"add 0 1 rectangle 0 0 2 2", "add 0 1 rectangle 0 0 1 2; add 0 1 rectangle 1 0 2 2", "add 0 1/2 rectangle 0 0 2 2; add 1/2 1 rectangle 0 0 2 2", "add 0 1 rectangle 0 0 3 2; cut -1 1 rectangle 2 -1 3 5", "add 0 1 polygon 0 0 2 0 2 2; add 0 1 polygon 0 0 2 2 0 2", "cut 0 1 disc 1 1 1; add 0 1 rectangle 0 0 2 2", "add 0 1 line 1 0 2; cut 0 1 line 1 0 0; cut 0 1 line 0 1 0; cut 0 1 line 0 -1 -2", "add 0 1 disc 1 1 1; add 0 1 rectangle 0 0 2 2; cut 1 3 rectangle 0 0 2 2"},
		{"add 0 1 rectangle 0 0 2 2; cut 0 1 disc 1 1 1/2", "add 0 1 rectangle 0 0 1 2; add 0 1 rectangle 1 0 2 2; cut 0 2 disc 1 1 1/2", "add 0 1 disc 1 1 1; cut 0 1 disc 1 1 1/2; add 0 1 rectangle 0 0 2 1/2; add 0 1 rectangle 0 3/2 2 2; add 0 1 rectangle 0 0 1/2 2; add 0 1 rectangle 3/2 0 2 2"},
		{"add 0 1 line 1 1 2", "add 0 1 line 1 1 2; add 0 1 line 1 1 1", "add 0 1 line 1 1 3; cut 0 1 line -1 -1 -2", "add 0 1/3 line 1 1 2; add 0 1 line 1 1 2"},
		{"add 0 2 disc 0 0 1; add 1 3 disc 0 0 1; cut 3 4 disc 0 0 1", "add 0 3 disc 0 0 1", "add 0 3 rectangle 0 0 1 1; add 0 3 disc 0 0 1; cut 0 3 rectangle 0 0 1 1; add 0 3 disc 0 0 1"},
	} {
		want := canonical(built(sample.Solid(list[0])))
		for _, s := range list[1:] {
			if got := canonical(built(sample.Solid(s))); !brep.Same(got, want) || !brep.Same(want, got) {
				t.Errorf("%d: %s instead of %s", i, text(got), text(want))
			}
		}
		for _, other := range []string{"add 0 1 disc 7 7 1", "add 0 1 rectangle 0 0 2 3", "add 0 2 rectangle 0 0 2 2", "add 0 1 line 1 1 0", "add 0 1 line -1 -1 -2", "add 1/3 3 disc 0 0 1", "add 0 1 line -1 0 0", "add 0 1 line 1 0 0"} {
			if brep.Same(canonical(built(sample.Solid(other))), want) {
				t.Errorf("%d: the same as %s", i, other)
			}
		}
	}
}

// P16.5: a canonical representation is that of itself, contains the same points, and has a
// face for each level and each curve.
func TestCanonicalTwice(t *testing.T) {
	t.Parallel()
	count := 0
	for i, b := range representations(solids(60, 76)) {
		c := canonical(b)
		if again := canonical(c); !brep.Same(again, c) {
			t.Errorf("%s, and then %s", text(c), text(again))
		}
		levels, curves := map[int]bool{}, map[int]bool{}
		for _, f := range sample.Needed(brep.Faces(c)) {
			if f.Kind == api.FWall {
				curves[f.Curve] = true
			} else {
				levels[f.Level] = true
			}
		}
		if len(levels) != len(c.Levels) || len(curves) != len(c.Curves) {
			t.Errorf("%s: faces at %v and of %v only", text(c), levels, curves)
		}
		for _, p := range sample.PointsNear(15, uint64(i)) {
			want, err := brep.Contains(b, p[0], p[1], p[2])
			if want < 0 {
				continue
			}
			if got, errGot := brep.Contains(c, p[0], p[1], p[2]); got != want || err != api.OK || errGot != api.OK {
				t.Errorf("Contains(%.900s; %s) = %d instead of %d", text(c), words(p[:]...), got, want)
			}
			count++
		}
	}
	if count < 500 {
		t.Error(count)
	}
}

// P16.6: solids of rectangles, discs and polygons are closed; what is beyond all events
// and ordinates of a closed one is outside.
func TestBounded(t *testing.T) {
	t.Parallel()
	count := map[bool]int{}
	shapes := sample.Shapes()
	bounded := slices.Concat(shapes[1:10], shapes[11:14])
	closed := models(sample.Solids(40, 3, bounded, sample.Heights(), 77))
	for i, m := range append(closed, models(append(known(), shaped(40, 3, 78)...))...) {
		s, b := m.Solid, m.rep
		isClosed := brep.Closed(b)
		if i < len(closed) && !isClosed {
			t.Errorf("%s is not closed", text(b))
		}
		count[isClosed]++
		if !isClosed {
			continue
		}
		var points [][2]api.Ratio
		first, last := b.Cells[0], b.Cells[len(b.Cells)-1]
		for _, y := range sample.Numbers("-1000000/7 0 11/7 1000000/7") {
			points = append(points, [2]api.Ratio{first.X, y}, [2]api.Ratio{last.X, y}, [2]api.Ratio{plus(first.X, fraction("-1000")), y}, [2]api.Ratio{plus(last.X, fraction("1000")), y})
		}
		for k, cell := range b.Cells {
			if k == 0 || b.Cells[k-1].Strip != cell.Strip {
				points = append(points, [2]api.Ratio{cell.X, cell.Y}, [2]api.Ratio{cell.X, plus(cell.Y, fraction("-1000"))})
			}
			if k == len(b.Cells)-1 || b.Cells[k+1].Strip != cell.Strip {
				points = append(points, [2]api.Ratio{cell.X, cell.Y}, [2]api.Ratio{cell.X, plus(cell.Y, fraction("1000"))})
			}
		}
		for _, p := range points {
			for _, z := range middles(s) {
				want := 0
				if isOnCurve(b.Curves, p[0], p[1]) {
					want = -1
				}
				if n, err := brep.Contains(b, p[0], p[1], z); n != want || err != api.OK || contains(s, p[0], p[1], z) && want == 0 {
					t.Errorf("Contains(%.900s; %s) = %d, %d", text(b), words(p[0], p[1], z), n, err)
				}
			}
		}
	}
	if count[true] < 80 || count[false] < 10 {
		t.Error(count)
	}
}

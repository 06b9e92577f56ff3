package brep_test

import (
	"fmt"
	"slices"
	"strconv"

	"workpiece/api"
	"workpiece/arrange"
	"workpiece/rational"
	"workpiece/region"
	"workpiece/sample"
	"workpiece/solid"
	"workpiece/tower"
)

// refused is the outcome of a call that returns ErrBrep.
var refused = sample.Failure(api.ErrBrep)

// word returns a text of r, which need not be valid.
func word(r api.Ratio) string {
	if rational.Valid(r) {
		return rational.Print(r)
	}
	return fmt.Sprintf("%q", r)
}

// words returns a text of a list of fractions.
func words(list ...api.Ratio) string {
	out := ""
	for _, r := range list {
		out += word(r) + " "
	}
	return out
}

// curvesText returns a text of curves.
func curvesText(curves []api.Curve) string {
	out := ""
	for _, c := range curves {
		out += fmt.Sprintf("%d: %s; ", c.Kind, words(c.A, c.B, c.C))
	}
	return out
}

// text returns a text of all fields of b, in which nil and empty are equal.
func text(b api.Brep) string {
	out := "levels " + words(b.Levels...) + "\ncurves " + curvesText(b.Curves) + "\ncells "
	for _, c := range b.Cells {
		out += fmt.Sprintf("%d.%d (%s); ", c.Strip, c.Index, words(c.X, c.Y))
	}
	for _, s := range b.Slabs {
		out += "\nslab "
		for _, isInside := range s.Inside {
			out += map[bool]string{false: ".", true: "x"}[isInside]
		}
	}
	return out
}

// solidText returns a text of all fields of s.
func solidText(s api.Solid) string {
	out := ""
	for _, p := range s.Prisms {
		out += fmt.Sprintf("%sto %s, %t, %d: %s%v\n", words(p.Lo), word(p.Hi), p.Cut, p.Feature, curvesText(p.Region.Curves), p.Region.Nodes)
	}
	return out
}

// facesText returns a text of all fields of faces, in which nil and empty are equal.
func facesText(list []api.Face) string {
	out := ""
	for _, f := range list {
		out += fmt.Sprintf("%d, level %d, curve %d: %v\n", f.Kind, f.Level, f.Curve, f.Pieces)
	}
	return out
}

// outcome returns the text of what Build or Canonical returns.
func outcome(b api.Brep, err api.Errno) string {
	return sample.Outcome(text(b), text(b) == text(api.Brep{}), err)
}

// membership returns the text of what Contains returns.
func membership(n int, err api.Errno) string { return sample.Outcome(strconv.Itoa(n), n == 0, err) }

// facesOutcome returns the text of what Faces returns.
func facesOutcome(list []api.Face, err api.Errno) string {
	return sample.Outcome(facesText(list), len(list) == 0, err)
}

// calculated returns what calculate returns, or refused if something has no result.
func calculated(calculate func() string) string { return sample.Calculated(api.ErrBrep, calculate) }

// isWellFormed reports whether b is well formed, by the chapter's definition.
func isWellFormed(b api.Brep) bool {
	for i, level := range b.Levels {
		if !rational.Valid(level) || i > 0 && rational.Compare(b.Levels[i-1], level) != -1 {
			return false
		}
	}
	known := map[api.Curve]bool{}
	for _, c := range b.Curves {
		if known[c] || !sample.IsCurve(c) {
			return false
		}
		known[c] = true
	}
	slabs := len(b.Levels) - 1
	if len(b.Levels) < 2 {
		slabs = 0
	}
	for _, s := range b.Slabs {
		if len(s.Inside) != len(b.Cells) {
			return false
		}
	}
	return len(b.Curves) <= 20 && len(b.Slabs) == slabs
}

// wantBuild returns the outcome of Build.
func wantBuild(s api.Solid) string {
	if !sample.IsSolid(s) {
		return refused
	}
	return calculated(func() string {
		known := map[api.Curve]bool{}
		out := api.Brep{Levels: solid.Levels(s)}
		for _, p := range s.Prisms {
			for _, c := range p.Region.Curves {
				if !known[c] {
					out.Curves = append(out.Curves, c)
				}
				known[c] = true
			}
		}
		out.Cells = sample.Needed(arrange.Cells(out.Curves))
		for i := range max(0, len(out.Levels)-1) {
			sum := sample.Needed(rational.Add(out.Levels[i], out.Levels[i+1]))
			z := sample.Needed(rational.Div(sum, fraction("2")))
			var inside []bool
			for _, cell := range out.Cells {
				inside = append(inside, sample.Needed(solid.Contains(s, cell.X, cell.Y, z)))
			}
			out.Slabs = append(out.Slabs, api.Slab{Inside: inside})
		}
		return text(out)
	})
}

// wantContains returns the outcome of Contains.
func wantContains(b api.Brep, x, y, z api.Ratio) string {
	if !isWellFormed(b) || !rational.Valid(x) || !rational.Valid(y) || !rational.Valid(z) {
		return refused
	}
	return calculated(func() string {
		out := "0"
		for i, s := range b.Slabs {
			if rational.Compare(b.Levels[i], z) == -1 && rational.Compare(z, b.Levels[i+1]) == -1 && !isOnCurve(b.Curves, x, y) {
				if s.Inside[sample.Needed(arrange.Locate(b.Curves, b.Cells, x, y))] {
					out = "1"
				}
			}
		}
		if isOnCurve(b.Curves, x, y) || slices.Contains(b.Levels, z) {
			return "-1"
		}
		return out
	})
}

// isOnCurve reports whether a point is on one of the curves. It panics if that is too
// large for any of them.
func isOnCurve(curves []api.Curve, x, y api.Ratio) bool {
	isOn := false
	for _, c := range curves {
		if sample.Needed(region.Side(c, x, y)) == 0 {
			isOn = true
		}
	}
	return isOn
}

// isVertical reports whether c is a vertical line.
func isVertical(c api.Curve) bool { return c.Kind == api.KLine && c.B.Num == "0" }

// wantTransposed returns the transposed curves. It panics if they are too large.
func wantTransposed(curves []api.Curve) []api.Curve {
	var out []api.Curve
	for _, c := range curves {
		if c.Kind == api.KCircle {
			out = append(out, api.Curve{Kind: api.KCircle, A: c.B, B: c.A, C: c.C})
			continue
		}
		d := c.B
		if d.Num == "0" {
			d = c.A
		}
		if d.Num[0] == '-' {
			d.Num = d.Num[1:]
		}
		over := func(r api.Ratio) api.Ratio { return sample.Needed(rational.Div(r, d)) }
		out = append(out, api.Curve{Kind: api.KLine, A: over(c.B), B: over(c.A), C: over(c.C)})
	}
	return out
}

// wantBorders returns the borders above cells that are followed by one with the same
// Strip. It panics if one of them has none.
func wantBorders(curves []api.Curve, cells []api.Cell) map[int]int {
	out := map[int]int{}
	for k := range max(0, len(cells)-1) {
		if cells[k].Strip == cells[k+1].Strip {
			out[k] = sample.Needed(arrange.Border(curves, cells, k))
		}
	}
	return out
}

// isInside reports whether a cell is inside in a slab, which there need not be.
func isInside(b api.Brep, slab, cell int) bool {
	return slab >= 0 && slab < len(b.Slabs) && b.Slabs[slab].Inside[cell]
}

// wantFaces returns the faces of the well-formed representation b. It panics if it has
// none.
func wantFaces(b api.Brep) []api.Face {
	var out []api.Face
	for i := range b.Levels {
		bottom, top := api.Face{Kind: 1, Level: i}, api.Face{Kind: 2, Level: i}
		for c := range b.Cells {
			if isInside(b, i, c) && !isInside(b, i-1, c) {
				bottom.Pieces = append(bottom.Pieces, [2]int{i, c})
			}
			if isInside(b, i-1, c) && !isInside(b, i, c) {
				top.Pieces = append(top.Pieces, [2]int{i - 1, c})
			}
		}
		out = append(out, bottom, top)
	}
	// The sides of the pieces of a wall are cells, in order.
	sides := map[int][][2]int{}
	for k, c := range wantBorders(b.Curves, b.Cells) {
		if !isVertical(b.Curves[c]) {
			sides[c] = append(sides[c], [2]int{k, k + 1})
		}
	}
	for c := range sides {
		slices.SortFunc(sides[c], func(p, q [2]int) int { return p[0] - q[0] })
	}
	transposed := wantTransposed(b.Curves)
	if slices.ContainsFunc(b.Curves, isVertical) {
		cells := sample.Needed(arrange.Cells(transposed))
		place := func(k int) int {
			return sample.Needed(arrange.Locate(b.Curves, b.Cells, cells[k].Y, cells[k].X))
		}
		borders := wantBorders(transposed, cells)
		for k := range cells {
			if c, ok := borders[k]; ok && isVertical(b.Curves[c]) {
				sides[c] = append(sides[c], [2]int{place(k), place(k + 1)})
			}
		}
	}
	for c := range b.Curves {
		wall := api.Face{Kind: 3, Curve: c}
		known := map[[2]int]bool{}
		for i := range b.Slabs {
			for _, pair := range sides[c] {
				piece := [2]int{i, pair[0]}
				if isInside(b, i, pair[0]) != isInside(b, i, pair[1]) && !known[piece] {
					wall.Pieces = append(wall.Pieces, piece)
					known[piece] = true
				}
			}
		}
		out = append(out, wall)
	}
	return slices.DeleteFunc(out, func(f api.Face) bool { return len(f.Pieces) == 0 })
}

// wantFacesOutcome returns the outcome of Faces.
func wantFacesOutcome(b api.Brep) string {
	if !isWellFormed(b) {
		return refused
	}
	return calculated(func() string { return facesText(wantFaces(b)) })
}

// wantClosed returns what Closed returns.
func wantClosed(b api.Brep) bool {
	if !isWellFormed(b) {
		return false
	}
	for k, cell := range b.Cells {
		isSmaller := func(other api.Cell) bool { return other.Strip < cell.Strip }
		isGreater := func(other api.Cell) bool { return other.Strip > cell.Strip }
		isBetween := k > 0 && k < len(b.Cells)-1 && b.Cells[k-1].Strip == cell.Strip && b.Cells[k+1].Strip == cell.Strip
		if isBetween && slices.ContainsFunc(b.Cells, isSmaller) && slices.ContainsFunc(b.Cells, isGreater) {
			continue
		}
		for i := range b.Slabs {
			if isInside(b, i, k) {
				return false
			}
		}
	}
	return true
}

// least returns the curves in ascending order of Kind, A, B and C, each once.
func least(curves []api.Curve) []api.Curve {
	isLess := func(c, d api.Curve) bool {
		if c.Kind != d.Kind {
			return c.Kind < d.Kind
		}
		for i, r := range []api.Ratio{c.A, c.B, c.C} {
			if order := rational.Compare(r, []api.Ratio{d.A, d.B, d.C}[i]); order != 0 {
				return order < 0
			}
		}
		return false
	}
	var out []api.Curve
	for _, c := range curves {
		at := 0
		for at < len(out) && isLess(out[at], c) {
			at++
		}
		if at == len(out) || out[at] != c {
			out = slices.Insert(out, at, c)
		}
	}
	return out
}

// turned returns the curve by which a canonical representation replaces c.
func turned(c api.Curve) api.Curve {
	if c.Kind == api.KLine && (c.A.Num == "-1" || c.A.Num == "0" && c.B.Num == "-1") {
		for _, r := range []*api.Ratio{&c.A, &c.B, &c.C} {
			*r = sample.Needed(rational.Sub(fraction("0"), *r))
		}
	}
	return c
}

// wantPlaces returns the strips and the indices of the cells of curves in which cells lie.
// It panics if that is too large.
func wantPlaces(curves []api.Curve, cells []api.Cell) [][2]int {
	type position struct {
		tower   api.Tower
		element []api.Ratio
	}
	var events []position
	for _, e := range sample.Needed(arrange.Events(curves)) {
		t, element, err := arrange.Position(curves, e)
		events = append(events, sample.Needed(position{t, element}, err))
	}
	var out [][2]int
	for _, cell := range cells {
		var at [2]int
		for _, e := range events {
			x := sample.Needed(tower.Embed(e.tower, []api.Ratio{cell.X}))
			if sample.Needed(tower.Compare(e.tower, e.element, x)) == -1 {
				at[0]++
			}
		}
		for _, c := range curves {
			at[1] += wantBranches(c, cell)
		}
		out = append(out, at)
	}
	return out
}

// wantBranches returns the number of branches of c below a cell. It panics if that is too
// large.
func wantBranches(c api.Curve, cell api.Cell) int {
	s := sample.ScopeOf(api.Tower{})
	for name, r := range map[string]api.Ratio{"a": c.A, "c": c.C, "x": cell.X} {
		s.Values[name] = []api.Ratio{r}
	}
	switch {
	case isVertical(c):
		return 0
	case c.Kind == api.KLine:
		// A quotient in a formula would be a product with an inverse.
		y := sample.Needed(rational.Div(s.Value("c - a * x")[0], c.B))
		if !rational.Valid(cell.Y) {
			panic(sample.Refusal("not a fraction"))
		}
		if rational.Compare(y, cell.Y) == -1 {
			return 1
		}
	case sample.Needed(region.Side(c, cell.X, cell.Y)) == 1:
		return 1
	case rational.Compare(s.Value("(x - a) * (x - a)")[0], c.C) == -1 && rational.Compare(cell.Y, c.B) == 1:
		return 2
	}
	return 0
}

// wantCanonical returns the outcome of Canonical.
func wantCanonical(b api.Brep) string {
	if !isWellFormed(b) {
		return refused
	}
	return calculated(func() string {
		var levels []int
		var out api.Brep
		var curves []api.Curve
		for _, f := range wantFaces(b) {
			if f.Kind == 3 {
				curves = append(curves, turned(b.Curves[f.Curve]))
			} else if !slices.Contains(levels, f.Level) {
				levels = append(levels, f.Level)
			}
		}
		out.Curves = least(curves)
		out.Cells = sample.Needed(arrange.Cells(out.Curves))
		first := map[[2]int]int{}
		for k, place := range wantPlaces(out.Curves, b.Cells) {
			if _, ok := first[place]; !ok {
				first[place] = k
			}
		}
		for _, cell := range out.Cells {
			if _, ok := first[[2]int{cell.Strip, cell.Index}]; !ok {
				return refused
			}
		}
		for i, level := range levels {
			out.Levels = append(out.Levels, b.Levels[level])
			if i == len(levels)-1 {
				break
			}
			var inside []bool
			for _, cell := range out.Cells {
				inside = append(inside, isInside(b, level, first[[2]int{cell.Strip, cell.Index}]))
			}
			out.Slabs = append(out.Slabs, api.Slab{Inside: inside})
		}
		return text(out)
	})
}

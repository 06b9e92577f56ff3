package brep

import (
	"iter"
	"slices"

	"workpiece/api"
	"workpiece/arrange"
)

// A border is a part of a curve, with the cells on both sides of it.
type border struct{ curve, cell, next int }

// borders yields the parts of the curves of b that are between two cells of a strip, and
// those of vertical lines.
func borders(b api.Brep) iter.Seq[border] {
	return func(yield func(border) bool) {
		for part := range crossed(b.Curves, b.Cells) {
			if !isVertical(b.Curves[part.curve]) && !yield(part) {
				return
			}
		}
		for part := range verticals(b) {
			if !yield(part) {
				return
			}
		}
	}
}

// crossed yields the first curve between any two successive cells of a strip.
func crossed(curves []api.Curve, cells []api.Cell) iter.Seq[border] {
	return func(yield func(border) bool) {
		for i := 1; i < len(cells); i++ {
			if cells[i-1].Strip != cells[i].Strip {
				continue
			}
			curve := must(arrange.Border(curves, cells, i-1))
			if !yield(border{curve, i - 1, i}) {
				return
			}
		}
	}
}

// verticals yields the parts of vertical lines. They are crossed by a strip where x and y
// are exchanged.
func verticals(b api.Brep) iter.Seq[border] {
	return func(yield func(border) bool) {
		// The transposed curves must not be too large, even if they are not needed.
		curves := transposed(b.Curves)
		if !slices.ContainsFunc(b.Curves, isVertical) {
			return
		}
		cells := must(arrange.Cells(curves))
		place := func(i int) int { return must(arrange.Locate(b.Curves, b.Cells, cells[i].Y, cells[i].X)) }
		for part := range crossed(curves, cells) {
			if isVertical(b.Curves[part.curve]) && !yield(border{part.curve, place(part.cell), place(part.next)}) {
				return
			}
		}
	}
}

// isVertical reports whether c is a vertical line.
func isVertical(c api.Curve) bool { return c.Kind == api.KLine && c.B == zero }

// transposed returns curves with x and y exchanged.
func transposed(curves []api.Curve) []api.Curve {
	var out []api.Curve
	for _, c := range curves {
		c.A, c.B = c.B, c.A
		if c.Kind == api.KLine {
			size := absolute(leading(c))
			c.A, c.B, c.C = over(c.A, size), over(c.B, size), over(c.C, size)
		}
		out = append(out, c)
	}
	return out
}

// leading returns the first coefficient of x and y in a line that is not 0.
func leading(line api.Curve) api.Ratio {
	if line.A == zero {
		return line.B
	}
	return line.A
}

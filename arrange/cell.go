package arrange

import (
	"iter"

	"workpiece/api"
	"workpiece/rational"
)

// cellsOf returns the cells of curves, strip by strip.
func cellsOf(curves []api.Curve) []api.Cell {
	list := each(sorted(events(curves), event.order), func(e event) number { return e.number })
	var out []api.Cell
	for strip, x := range samples(list) {
		for index, y := range samples(sorted(ordinates(curves, x), number.compare)) {
			out = append(out, api.Cell{X: x, Y: y, Strip: strip, Index: index})
		}
	}
	return out
}

// ordinates yields the ordinates of the points of curves with the abscissa x, which is
// not the position of an event.
func ordinates(curves []api.Curve, x api.Ratio) iter.Seq[number] {
	return func(yield func(number) bool) {
		for _, c := range curves {
			for _, y := range heights(c, x) {
				if !yield(y) {
					return
				}
			}
		}
	}
}

// heights returns the ordinates of the points of c with the abscissa x.
func heights(c api.Curve, x api.Ratio) []number {
	switch {
	case isVertical(c):
		return nil
	case c.Kind == api.KLine:
		return []number{fraction(over(minus(c.C, times(c.A, x)), c.B))}
	}
	away := minus(x, c.A)
	square := times(away, away)
	if rational.Compare(square, c.C) >= 0 {
		return nil
	}
	return around(c.B, one, minus(c.C, square))
}

package brep

import (
	"iter"
	"math"
	"slices"

	"workpiece/api"
	"workpiece/rational"
	"workpiece/region"
)

// isWellFormed reports whether the parts of b are valid and fit each other. The cells may
// be any ones.
func isWellFormed(b api.Brep) bool {
	isUnfit := func(s api.Slab) bool { return len(s.Inside) != len(b.Cells) }
	return len(b.Slabs) == max(0, len(b.Levels)-1) && !slices.ContainsFunc(b.Slabs, isUnfit) &&
		areAscending(b.Levels) && areDifferent(b.Curves)
}

// areAscending reports whether levels are valid, and each is above the one before it.
func areAscending(levels []api.Ratio) bool {
	for i, level := range levels {
		if !rational.Valid(level) || i > 0 && rational.Compare(levels[i-1], level) >= 0 {
			return false
		}
	}
	return true
}

// areDifferent reports whether curves are valid, not too many, and different from each
// other.
func areDifferent(curves []api.Curve) bool {
	if len(curves) > api.MaxArrange {
		return false
	}
	for i, c := range curves {
		if !region.ValidCurve(c) || slices.Contains(curves[:i], c) {
			return false
		}
	}
	return true
}

// unbounded yields the indices of the unbounded cells: the first and the last one of each
// strip, and all of the strips on the left and on the right.
func unbounded(cells []api.Cell) iter.Seq[int] {
	return func(yield func(int) bool) {
		left, right := math.MaxInt, math.MinInt
		for _, c := range cells {
			left, right = min(left, c.Strip), max(right, c.Strip)
		}
		for i, c := range cells {
			isLowest := i == 0 || cells[i-1].Strip != c.Strip
			isHighest := i == len(cells)-1 || cells[i+1].Strip != c.Strip
			isUnbounded := isLowest || isHighest || c.Strip == left || c.Strip == right
			if isUnbounded && !yield(i) {
				return
			}
		}
	}
}

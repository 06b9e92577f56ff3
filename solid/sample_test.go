package solid_test

import (
	"slices"

	"workpiece/api"
	"workpiece/sample"
	"workpiece/solid"
)

// number returns the fraction with the text s.
func number(s string) api.Ratio { return sample.Number(s) }

// few are fractions of which many sums and products are equal, so that points are often
// on curves.
var few = sample.Numbers("0 1 -1 2 -2 3 -3 4 5 1/2 -1/2 3/2 25 9/4 1/4")

var heights = sample.Heights()

// large returns fractions of which operations are often too large, or nearly so.
func large(seed uint64) []api.Ratio {
	return slices.Concat(few, sample.Fractions(60, 104, seed), sample.Fractions(20, 50, seed+1), sample.LargeFractions())
}

// shaped returns count solids of up to size prisms over simple shapes.
func shaped(count int, size int, seed uint64) []api.Solid {
	return sample.Solids(count, size, sample.Shapes(), heights, seed)
}

// solids returns solids of all sizes: over simple shapes, over formulas, and with large
// numbers.
func solids(count int, seed uint64) []api.Solid {
	formulas := slices.Concat(sample.Shapes(), sample.Regions(75, few, seed))
	wide := slices.Concat(sample.Shapes(), sample.Regions(30, large(seed), seed))
	return slices.Concat(shaped(count, 16, seed),
		sample.Solids(count, 16, formulas, heights, seed+1),
		sample.Solids(count, 16, sample.Shapes(), large(seed+2), seed+2),
		sample.Solids(count, 16, wide, large(seed+3), seed+3))
}

// drilled is a box with a hole, the solid of the examples.
func drilled() api.Solid {
	return sample.Solid("add 0 3 rectangle 0 0 4 4; cut 1 5 disc 2 2 1")
}

// levelsOf returns the levels of s.
func levelsOf(s api.Solid) []api.Ratio { return solid.Levels(s) }

// combined returns what Combine returns. It panics if there is an error.
func combined(op int, a, b api.Solid) api.Solid { return sample.Needed(solid.Combine(op, a, b)) }

package solid_test

import (
	"slices"

	"workpiece/api"
	"workpiece/sample"
	"workpiece/solid"
)

// number returns the fraction with the text s.
func number(s string) api.Ratio { return sample.Number(s) }

// few are fractions of which many sums and products are equal, so that points are often
// on curves.
var few = sample.Numbers("0 1 -1 2 -2 3 -3 4 5 1/2 -1/2 3/2 25 9/4 1/4")

// heights are so few that many solids have levels in common.
var heights = sample.Numbers("0 1 2 3 4 -1 1/2 -1/2 7/3")

// large returns fractions of which operations are often too large, or nearly so.
func large(seed uint64) []api.Ratio {
	return slices.Concat(few, sample.Fractions(60, 104, seed), sample.Fractions(20, 50, seed+1), sample.LargeFractions())
}

// shaped returns count solids of up to size prisms over simple shapes.
func shaped(count int, size int, seed uint64) []api.Solid {
	return sample.Solids(count, size, sample.Shapes(), heights, seed)
}

// solids returns solids of all sizes: over simple shapes, over formulas, and with large
// numbers.
func solids(count int, seed uint64) []api.Solid {
	formulas := slices.Concat(sample.Shapes(), sample.Regions(75, few, seed))
	wide := slices.Concat(sample.Shapes(), sample.Regions(30, large(seed), seed))
	return slices.Concat(shaped(count, 16, seed),
		sample.Solids(count, 16, formulas, heights, seed+1),
		sample.Solids(count, 16, sample.Shapes(), large(seed+2), seed+2),
		sample.Solids(count, 16, wide, large(seed+3), seed+3))
}

// drilled is a box with a hole, the solid of the examples.
func drilled() api.Solid {
	return sample.Solid("add 0 3 rectangle 0 0 4 4; cut 1 5 disc 2 2 1")
}

// places returns count points (x, y, z), of which x and y are from plane, and z from
// upright.
func places(count int, plane []api.Ratio, upright []api.Ratio, seed uint64) [][3]api.Ratio {
	random := sample.Bytes(6*count, seed)
	pick := func(i int, list []api.Ratio) api.Ratio {
		return list[(int(random[i])+int(random[i+1])<<8)%len(list)]
	}
	var out [][3]api.Ratio
	for i := range count {
		out = append(out, [3]api.Ratio{pick(6*i, plane), pick(6*i+2, plane), pick(6*i+4, upright)})
	}
	return out
}

// near returns count points with coordinates from -3 to 5, of which many are on curves
// and at levels.
func near(count int, seed uint64) [][3]api.Ratio {
	plane := sample.Numbers("0 1 -1 2 -2 3 -3 1/2 -1/2 3/2 3/5 4/5 -3/5 7/4 1/3")
	return places(count, plane, slices.Concat(heights, sample.Numbers("5/2 1/4 -3/4 7/5 10/3 6 -5")), seed)
}

// levelsOf returns the levels of s.
func levelsOf(s api.Solid) []api.Ratio { return solid.Levels(s) }

// combined returns what Combine returns. It panics if there is an error.
func combined(op int, a, b api.Solid) api.Solid { return sample.Needed(solid.Combine(op, a, b)) }

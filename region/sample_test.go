package region_test

import (
	"slices"
	"strconv"

	"workpiece/api"
	"workpiece/sample"
)

// number returns the fraction with the text s.
func number(s string) api.Ratio { return sample.Number(s) }

// few are fractions of which many sums and products are equal, so that points are often
// on curves.
var few = sample.Numbers("0 1 -1 2 -2 3 -3 4 5 1/2 -1/2 3/2 25 9/4 1/4")

// large returns fractions of which operations are often too large, or nearly so.
func large(seed uint64) []api.Ratio {
	return slices.Concat(few, sample.Fractions(60, 104, seed), sample.Fractions(20, 50, seed+1), sample.LargeFractions())
}

// regions returns valid regions, small ones and large ones.
func regions(count int, seed uint64) []api.Region {
	return slices.Concat(sample.Regions(count, few, seed), sample.Regions(count/2, large(seed), seed+1))
}

// points returns count points whose coordinates are from list.
func points(count int, list []api.Ratio, seed uint64) [][2]api.Ratio {
	random := sample.Bytes(4*count, seed)
	pick := func(i int) api.Ratio { return list[(int(random[i])+int(random[i+1])<<8)%len(list)] }
	var out [][2]api.Ratio
	for i := range count {
		out = append(out, [2]api.Ratio{pick(4 * i), pick(4*i + 2)})
	}
	return out
}

// pairs returns the points whose coordinates are the words of s.
func pairs(s string) [][2]api.Ratio {
	var out [][2]api.Ratio
	for p := range slices.Chunk(sample.Numbers(s), 2) {
		out = append(out, [2]api.Ratio(p))
	}
	return out
}

// convex returns a strictly convex polygon with count corners, at most 40, which are
// counterclockwise: points of a circle, which is sheared and moved.
func convex(count int, seed uint64) [][2]api.Ratio {
	order := sample.Shuffled(40, seed)[:count]
	slices.Sort(order)
	shift := sample.Reordered(few, sample.Shuffled(len(few), seed)[:3])
	one := number("1")
	var out [][2]api.Ratio
	for _, i := range order {
		// t is the tangent of half of the angle, which increases with i.
		t := sample.Fraction(strconv.Itoa(i-20), "5")
		length := add(one, mul(t, t))
		x, y := div(sub(one, mul(t, t)), length), div(add(t, t), length)
		out = append(out, [2]api.Ratio{add(add(x, mul(shift[0], y)), shift[1]), add(y, shift[2])})
	}
	return out
}

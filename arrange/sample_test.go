package arrange_test

import (
	"slices"

	"workpiece/api"
	"workpiece/arrange"
	"workpiece/rational"
	"workpiece/region"
	"workpiece/sample"
)

// number returns the fraction with the text s.
func number(s string) api.Ratio { return sample.Number(s) }

// few are fractions of which many sums and products are equal, so that curves often meet
// at the same abscissa, or touch each other.
var few = sample.Numbers("0 1 -1 2 -2 3 -3 4 5 1/2 -1/2 3/2 25 9/4 1/4")

// near are fractions so near to each other that circles made of them often meet.
var near = sample.Numbers("0 1 -1 2 1/2 4 9/4 1/4 3 5")

// lists returns lists of curves that meet in all ways, and count random ones of up to
// size curves, of which many meet or touch each other.
func lists(count int, size int, seed uint64) [][]api.Curve {
	out := sample.Arrangements()
	for i := range count {
		own := seed + uint64(i)<<20
		curves := sample.Curves(1+i%size, [][]api.Ratio{few, near}[i/size%2], own)
		if i%3 == 0 {
			copy(curves, sample.Reordered(touching(own), sample.Shuffled(2, own)))
		}
		out = append(out, curves)
	}
	return out
}

// touching returns a circle and another curve that touches it.
func touching(seed uint64) []api.Curve {
	random := sample.Bytes(4, seed)
	k, c := curveOf(api.KCircle, near, seed), curveOf(1+int(random[0])%2, near, seed+1)
	by, radius := near[1+int(random[1])%9], near[1+2*int(random[2])%8]
	if c.Kind == api.KLine {
		off := added(added(multiplied(c.A, k.A), multiplied(c.B, k.B)), negated(c.C))
		k.C = sample.Needed(rational.Div(multiplied(off, off), added(multiplied(c.A, c.A), multiplied(c.B, c.B))))
	} else {
		way := sample.Numbers([]string{"3 4", "4 -3", "5 0", "0 5"}[random[3]%4])
		other := added(radius, multiplied(by, number("5")))
		c.A, c.B = added(k.A, multiplied(by, way[0])), added(k.B, multiplied(by, way[1]))
		k.C, c.C = multiplied(radius, radius), multiplied(other, other)
	}
	if !sample.IsCurve(k) || !sample.IsCurve(c) {
		return touching(seed + 1)
	}
	return []api.Curve{k, c}
}

// wide are integers and fractions with one digit and many zeros, so that products of some
// of them are too large, and many others nearly so.
var wide = powers(0, 1, 10, 24, 25, 30, 33, 40, 49, 50, 51, 60, 66, 67, 90, 99, 100, 101, 150, 180, 189, 190, 199)

// powers returns fractions that have so many zeros in the Num or the Den.
func powers(zeros ...int) []api.Ratio {
	out := sample.Numbers("0 1 -1 2 3 1/2")
	for i, k := range zeros {
		digit, power := "123456789"[i%9:i%9+1], sample.Power(k)
		for _, s := range []string{digit + power[1:], "-" + digit + power[1:], power, "9" + power[1:]} {
			out = append(out, number(s))
		}
		out = append(out, sample.Fraction("1", power), sample.Fraction("-"+digit, power))
	}
	return out
}

// largeNumbers returns fractions of which some computations are too large, or nearly so.
func largeNumbers(i int, seed uint64) []api.Ratio {
	numbers := sample.Fractions(12, []int{5, 12, 17, 24, 30, 40, 60, 100}[i%8], seed)
	switch i % 3 {
	case 1:
		return slices.Concat(few, wide)
	case 2:
		return slices.Concat(few[:5], numbers, integersNear(numbers))
	}
	return slices.Concat(few, numbers)
}

// largeLists returns count lists of up to size curves with large numbers.
func largeLists(count int, size int, seed uint64) [][]api.Curve {
	var out [][]api.Curve
	for i := range count {
		own := seed + uint64(i)<<20
		out = append(out, sample.Curves(1+i%size, largeNumbers(i, own), own))
	}
	return out
}

// largePairs returns count pairs of curves with large numbers. Half of them have points in
// common, unless something is too large.
func largePairs(count int, seed uint64) [][]api.Curve {
	var out [][]api.Curve
	for i := range count {
		own := seed + uint64(i)<<20
		list := largeNumbers(i, own)
		first, second := curveOf(1+i%2, list, own+1), curveOf(1+i/2%2, list, own+2)
		if i/4%2 == 0 {
			second = nearTo(first, second, few[i/8%len(few)])
		}
		out = append(out, []api.Curve{first, second})
	}
	return out
}

// curveOf returns a valid curve of a kind, whose fractions are from list.
func curveOf(kind int, list []api.Ratio, seed uint64) api.Curve {
	for ; ; seed += 1 << 50 {
		p := points(2, list, seed)
		c := api.Curve{Kind: kind, A: p[0][0], B: p[0][1], C: p[1][0]}
		if kind == api.KLine {
			c.A = sample.Numbers("1 -1 0")[seed>>50%3]
		}
		if sample.IsCurve(c) {
			return c
		}
	}
}

// nearTo returns the curve c, moved so that it is next to the curve, or c if that is too
// large.
func nearTo(curve api.Curve, c api.Curve, shift api.Ratio) api.Curve {
	moved := c
	sample.Calculated(api.ErrArrange, func() string {
		switch {
		case curve.Kind == api.KCircle && c.Kind == api.KCircle:
			moved.A, moved.B, moved.C = added(curve.A, shift), added(curve.B, number("1/2")), added(curve.C, shift)
		case curve.Kind == api.KCircle:
			moved.C = added(added(multiplied(c.A, curve.A), multiplied(c.B, curve.B)), shift)
		case c.Kind == api.KCircle && curve.A.Num != "0":
			moved.A = multiplied(curve.A, added(curve.C, negated(multiplied(curve.B, c.B))))
		default:
			moved.C = added(curve.C, shift)
		}
		return ""
	})
	if !sample.IsCurve(moved) {
		return c
	}
	return moved
}

// integersNear returns the numerators of list, and integers next to them.
func integersNear(list []api.Ratio) []api.Ratio {
	var out []api.Ratio
	for _, r := range list {
		n := sample.Fraction(r.Num, "1")
		out = append(out, n, added(n, number("1")))
	}
	return out
}

// points returns count points whose coordinates are from list.
func points(count int, list []api.Ratio, seed uint64) [][2]api.Ratio {
	random := sample.Bytes(4*count, seed)
	pick := func(i int) api.Ratio { return list[(int(random[i])+int(random[i+1])<<8)%len(list)] }
	var out [][2]api.Ratio
	for i := range count {
		out = append(out, [2]api.Ratio{pick(4 * i), pick(4*i + 2)})
	}
	return out
}

// cellsOf returns the cells of curves. It panics if there is an error.
func cellsOf(curves []api.Curve) []api.Cell {
	cells, err := arrange.Cells(curves)
	if err != api.OK {
		panic("no cells of " + curvesText(curves))
	}
	return cells
}

// invalidLists returns lists of curves that are not valid, or too many.
func invalidLists() [][]api.Curve {
	many := sample.Curves(21, few, 5)
	out := [][]api.Curve{many, slices.Repeat(many[:1], 21), slices.Repeat(many[:7], 1<<15)}
	for i, c := range sample.InvalidCurves() {
		list := slices.Clone(many[:1+i%4])
		list[i/4%len(list)] = c
		out = append(out, list)
	}
	return append(out, append(slices.Clone(many[:19]), sample.InvalidCurves()[0]))
}

func added(a, b api.Ratio) api.Ratio      { return sample.Needed(rational.Add(a, b)) }
func multiplied(a, b api.Ratio) api.Ratio { return sample.Needed(rational.Mul(a, b)) }
func negated(a api.Ratio) api.Ratio       { return multiplied(number("-1"), a) }

// rectangle returns the rectangle whose sides are at the words of s.
func rectangle(s string) api.Region {
	l := sample.Numbers(s)
	return sample.Needed(region.Rectangle(l[0], l[1], l[2], l[3]))
}

// disc returns the disc with the center and the radius that are the words of s.
func disc(s string) api.Region {
	l := sample.Numbers(s)
	return sample.Needed(region.Disc(l[0], l[1], l[2]))
}

// triangle returns the triangle with the corners whose coordinates are the words of s.
func triangle(s string) api.Region {
	l := sample.Numbers(s)
	return sample.Needed(region.Polygon([][2]api.Ratio{{l[0], l[1]}, {l[2], l[3]}, {l[4], l[5]}}))
}

// combined returns what Combine returns. It panics if there is an error.
func combined(op int, a, b api.Region) api.Region { return sample.Needed(region.Combine(op, a, b)) }

// figures returns simple regions, of which many have curves and points in common.
func figures() []api.Region {
	return []api.Region{
		{}, rectangle("-1 -1 1 1"), rectangle("-1 -1 0 1"), rectangle("0 -1 1 1"), rectangle("-1 -1 2 2"), rectangle("2 2 3 3"), disc("0 0 1"), disc("1/2 0 1/2"), disc("1 1 1"), disc("0 0 3/2"),
		triangle("-1 -1 1 -1 1 1"), triangle("-1 -1 1 1 -1 1"), triangle("0 0 3 0 0 3"),
	}
}

// regions returns count valid regions of few curves: formulas, and combinations of
// figures.
func regions(count int, seed uint64) []api.Region {
	out := figures()
	for i, r := range sample.Regions(20*count, few, seed) {
		if len(r.Curves) < 6 && len(r.Nodes) < 30 && len(out) < count/2 {
			out = append(out, r)
		}
		if a, b := out[i%13], out[i/13%13]; len(out) < count && i%3 == 0 {
			out = append(out, combined(2+i%9/3, a, b))
		}
	}
	return out
}

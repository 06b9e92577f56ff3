package region_test

import (
	"math/big"
	"slices"
	"strconv"
	"testing"

	"workpiece/api"
	"workpiece/region"
	"workpiece/sample"
)

// contains returns whether r contains the point p. It panics if there is an error.
func contains(r api.Region, p [2]api.Ratio) bool {
	is, err := region.Contains(r, p[0], p[1])
	if err != api.OK {
		panic("no point of " + text(r))
	}
	return is
}

// combined returns what Combine returns. It panics if there is an error.
func combined(op int, a, b api.Region) api.Region {
	r, err := region.Combine(op, a, b)
	if err != api.OK {
		panic("no combination of " + text(a) + " and " + text(b))
	}
	return r
}

// operate returns the value of an operation.
func operate(op int, a, b bool) bool {
	switch op {
	case api.RUnion:
		return a || b
	case api.RIntersect:
		return a && b
	}
	return a && !b
}

// modest returns regions with few curves and nodes, so that several can be combined:
// rectangles, discs, polygons, formulas, and the empty one.
func modest(count int, seed uint64) []api.Region {
	out := []api.Region{{}, rectangle("-1 -2 1 2"), rectangle("0 0 3 1"), disc("0 0 2"), disc("1 0 1"), disc("-1/2 1/2 3/2")}
	for i := range 3 {
		r, err := region.Polygon(convex(3+i, seed+uint64(i)))
		if err != api.OK {
			panic("no polygon")
		}
		out = append(out, r)
	}
	for i, r := range sample.Regions(40*count, few, seed) {
		if len(r.Curves) > 0 && len(r.Curves) < 5 && len(r.Nodes) < 16 && len(out) < count && i > 1 {
			out = append(out, r)
		}
	}
	return out
}

// around returns points with coordinates from -3 to 3, of which many are on curves.
func around(count int, seed uint64) [][2]api.Ratio {
	return points(count, sample.Numbers("0 1 -1 2 -2 3 -3 1/2 -1/2 3/2 3/5 4/5 -3/5 7/4"), seed)
}

// isOnCurve reports whether p is on a curve of r.
func isOnCurve(r api.Region, p [2]api.Ratio) bool {
	return slices.ContainsFunc(r.Curves, func(c api.Curve) bool { return exactSide(c, p[0], p[1]) == 0 })
}

// P13.2: unions, intersections and differences contain what the operation says, on
// curves, too.
func TestCombinedMembership(t *testing.T) {
	t.Parallel()
	count := map[string]int{}
	list := modest(30, 71)
	for i, a := range list {
		for k, b := range list {
			for op := api.RUnion; op <= api.RMinus; op++ {
				r := combined(op, a, b)
				for _, p := range around(6, uint64(100*i+k)) {
					got, want := contains(r, p), operate(op, contains(a, p), contains(b, p))
					if got != want {
						t.Errorf("Combine(%d, %s, %s) contains %v: %t", op, text(a), text(b), p, got)
					}
					count[strconv.Itoa(op)+" "+strconv.FormatBool(want)+" "+strconv.FormatBool(isOnCurve(r, p))]++
				}
			}
		}
	}
	if len(count) != 12 || slices.Min([]int{count["2 false true"], count["3 true true"], count["4 true true"], count["2 true true"]}) < 100 {
		t.Error(count)
	}
}

// P13.2: the value of a combination is that of the operation for the values of both
// regions, whatever the values of the leaves; also of one with the largest regions.
func TestCombinedValue(t *testing.T) {
	t.Parallel()
	count := map[bool]int{}
	all := sample.Curves(24, few, 72)
	for i := range 600 {
		a, b := sample.Regions(25, few, uint64(i))[1+i%24], sample.Regions(25, few, uint64(i)+1)[1+i/24%24]
		a.Curves = sample.Reordered(all, sample.Shuffled(24, uint64(i))[:len(a.Curves)])
		b.Curves = sample.Reordered(all, sample.Shuffled(24, uint64(i)+1)[:len(b.Curves)])
		r, err := region.Combine(2+i%3, a, b)
		if err != api.OK {
			continue
		}
		for k := range 8 {
			random := sample.Bytes(24, uint64(8*i+k))
			leaves := func(curves []api.Curve) []bool {
				var out []bool
				for _, c := range curves {
					out = append(out, random[slices.Index(all, c)]&1 > 0)
				}
				return out
			}
			inA, errA := region.Evaluate(a, leaves(a.Curves))
			inB, errB := region.Evaluate(b, leaves(b.Curves))
			got, err := region.Evaluate(r, leaves(r.Curves))
			want := operate(2+i%3, inA, inB)
			if errA != api.OK || errB != api.OK || err != api.OK || got != want {
				t.Errorf("Evaluate(%s) = %t, %d", text(r), got, err)
			}
			count[got]++
		}
	}
	if count[true] < 500 || count[false] < 500 {
		t.Error(count)
	}
}

// onCurve returns a point on c, which depends on s, and false if c is a circle whose
// radius is not a fraction.
func onCurve(c api.Curve, s api.Ratio) ([2]api.Ratio, bool) {
	if c.Kind == api.KLine {
		if c.A.Num == "0" {
			return [2]api.Ratio{s, mul(c.B, c.C)}, true
		}
		return [2]api.Ratio{mul(c.A, sub(c.C, mul(c.B, s))), s}, true
	}
	for _, radius := range few {
		if sign(radius) > 0 && mul(radius, radius) == c.C {
			length := add(number("1"), mul(s, s))
			x, y := div(sub(number("1"), mul(s, s)), length), div(add(s, s), length)
			return [2]api.Ratio{add(c.A, mul(radius, x)), add(c.B, mul(radius, y))}, true
		}
	}
	return [2]api.Ratio{}, false
}

// between returns the point that is on the way from p to q by s.
func between(p, q [2]api.Ratio, s api.Ratio) [2]api.Ratio {
	var out [2]api.Ratio
	for axis := range out {
		out[axis] = add(p[axis], mul(s, sub(q[axis], p[axis])))
	}
	return out
}

// P13.3: a point between two points that are inside is inside; it is not on the curve if
// one of them is not, or the curve is a circle and they are different.
func TestConvex(t *testing.T) {
	t.Parallel()
	count := map[string]int{}
	side := func(c api.Curve, p [2]api.Ratio) int {
		s, err := region.Side(c, p[0], p[1])
		if err != api.OK {
			t.Errorf("Side(%v; %v) = %d", c, p, err)
		}
		return s
	}
	ways := sample.Numbers("1/2 1/3 1/1000000 999999/1000000 2/7")
	for i, c := range sample.Curves(300, few, 73) {
		list := points(8, few, uint64(i))
		for k, s := range sample.Numbers("0 1 -1 1/2 -7/3") {
			if p, ok := onCurve(c, s); ok {
				if side(c, p) != 0 {
					t.Errorf("Side(%v; %v) is not 0", c, p)
				}
				list = append(list, p, between(p, [2]api.Ratio{c.A, c.B}, ways[k]))
			}
		}
		for k, p := range list {
			for m, q := range list {
				if side(c, p) < 0 || side(c, q) < 0 {
					continue
				}
				want := 1
				isOne := c.Kind == api.KLine || p == q
				if side(c, p) == 0 && side(c, q) == 0 && isOne {
					want = 0
				}
				if got := side(c, between(p, q, ways[(k+m)%5])); got != want {
					t.Errorf("Side(%v) between %v and %v = %d", c, p, q, got)
				}
				count[strconv.Itoa(c.Kind)+" "+strconv.Itoa(side(c, p))+" "+strconv.Itoa(side(c, q))+" "+strconv.FormatBool(p == q)]++
			}
		}
	}
	for _, kind := range []string{"1 0 0 false", "1 0 1 false", "1 1 1 false", "2 0 0 false", "2 0 1 false", "2 1 1 false"} {
		if count[kind] < 100 {
			t.Errorf("%s: only %d times", kind, count[kind])
		}
	}
}

// shifted returns p, moved by d.
func shifted(p, d [2]api.Ratio) [2]api.Ratio { return [2]api.Ratio{add(p[0], d[0]), add(p[1], d[1])} }

// P13.4: a moved region contains exactly the moved points, and moving it back gives the
// region again.
func TestMoved(t *testing.T) {
	t.Parallel()
	count := map[bool]int{}
	onCurves := 0
	for i, r := range append(sample.Regions(150, few, 74), modest(20, 75)...) {
		d := points(1, slices.Concat(few, sample.Fractions(20, 20, 76)), uint64(i))[0]
		moved, err := region.Move(r, d[0], d[1])
		back, errBack := region.Move(moved, negative(d[0]), negative(d[1]))
		if err != api.OK || errBack != api.OK || !region.Same(back, r) {
			t.Fatalf("Move(%s, %v) and back = %s, %d, %d", text(r), d, text(back), err, errBack)
		}
		list := around(12, uint64(i))
		for _, c := range r.Curves {
			if p, ok := onCurve(c, number("1/2")); ok {
				list = append(list, p)
				onCurves++
			}
		}
		for _, p := range list {
			is := contains(r, p)
			if contains(moved, shifted(p, d)) != is {
				t.Errorf("Move(%s, %v) contains %v, moved: not %t", text(r), d, p, is)
			}
			count[is]++
		}
	}
	if count[true] < 500 || count[false] < 500 || onCurves < 500 {
		t.Error(count, onCurves)
	}
}

// P13.4: a mirrored region contains exactly the mirrored points, and mirroring it twice
// gives the region again.
func TestMirrored(t *testing.T) {
	t.Parallel()
	count := map[bool]int{}
	for i, r := range append(sample.Regions(150, few, 77), modest(20, 78)...) {
		x := points(1, slices.Concat(few, sample.Fractions(20, 20, 79)), uint64(i))[0][0]
		mirrored, err := region.Mirror(r, x)
		twice, errTwice := region.Mirror(mirrored, x)
		if err != api.OK || errTwice != api.OK || !region.Same(twice, r) {
			t.Fatalf("Mirror(%s, %v) twice = %s, %d, %d", text(r), x, text(twice), err, errTwice)
		}
		list := around(12, uint64(i))
		for _, c := range r.Curves {
			if p, ok := onCurve(c, number("-2")); ok {
				list = append(list, p)
			}
		}
		for _, p := range list {
			is := contains(r, p)
			if contains(mirrored, [2]api.Ratio{sub(add(x, x), p[0]), p[1]}) != is {
				t.Errorf("Mirror(%s, %v) contains %v, mirrored: not %t", text(r), x, p, is)
			}
			count[is]++
		}
	}
	if count[true] < 500 || count[false] < 500 {
		t.Error(count)
	}
}

// P13.5: a rectangle contains the points between its sides, and those on them.
func TestRectangleMembership(t *testing.T) {
	t.Parallel()
	count := map[bool]int{}
	for i, low := range around(60, 80) {
		size := points(1, sample.Numbers("1 2 1/3 5/2 7/1000000"), uint64(i))[0]
		high := shifted(low, size)
		r, err := region.Rectangle(low[0], low[1], high[0], high[1])
		if err != api.OK {
			t.Fatalf("Rectangle(%v, %v) = %d", low, high, err)
		}
		list := append(around(30, uint64(i)), low, high, [2]api.Ratio{low[0], high[1]}, [2]api.Ratio{high[0], low[1]})
		for _, s := range sample.Numbers("0 1 1/2 -1/1000000 1000001/1000000") {
			list = append(list, between(low, high, s), [2]api.Ratio{between(low, high, s)[0], low[1]}, [2]api.Ratio{high[0], between(low, high, s)[1]})
		}
		for _, p := range list {
			want := true
			for axis := range p {
				want = want && value(p[axis]).Cmp(value(low[axis])) >= 0 && value(p[axis]).Cmp(value(high[axis])) <= 0
			}
			if contains(r, p) != want {
				t.Errorf("Rectangle(%v, %v) contains %v: not %t", low, high, p, want)
			}
			count[want]++
		}
	}
	if count[true] < 500 || count[false] < 500 {
		t.Error(count)
	}
}

// P13.5: a disc contains the points at a distance of at most its radius.
func TestDiscMembership(t *testing.T) {
	t.Parallel()
	count := map[int]int{}
	for i, center := range around(60, 81) {
		radius := sample.Numbers("1 2 1/2 3/2 5 4 3")[i%7]
		r, err := region.Disc(center[0], center[1], radius)
		if err != api.OK {
			t.Fatalf("Disc(%v, %v) = %d", center, radius, err)
		}
		list := around(30, uint64(i))
		for _, s := range sample.Numbers("0 1 -1 1/2 -7/3 1000") {
			p, ok := onCurve(r.Curves[0], s)
			if !ok {
				t.Fatalf("no point on %v", r.Curves[0])
			}
			list = append(list, p, between(center, p, number("999999/1000000")), between(center, p, number("1000001/1000000")))
		}
		for _, p := range list {
			distance := square(value(p[0]), value(p[1]), value(center[0]), value(center[1]))
			want := distance.Cmp(times(value(radius), value(radius)))
			if contains(r, p) != (want <= 0) {
				t.Errorf("Disc(%v, %v) contains %v: not %t", center, radius, p, want <= 0)
			}
			count[want]++
		}
	}
	if count[-1] < 400 || count[0] < 300 || count[1] < 400 {
		t.Error(count)
	}
}

// isCombination reports whether p is a convex combination of the corners of a triangle:
// whether its weights, which are areas, are not negative.
func isCombination(triangle [3][2]api.Ratio, p [2]api.Ratio) bool {
	for i := range triangle {
		if turn(triangle[i], triangle[(i+1)%3], p) < 0 {
			return false
		}
	}
	return true
}

// P13.5: a polygon contains the convex combinations of its corners, with any weights.
func TestPolygonCombinations(t *testing.T) {
	t.Parallel()
	for i := range 60 {
		corners := convex(3+i%22, uint64(i))
		r, err := region.Polygon(corners)
		if err != api.OK {
			t.Fatalf("Polygon(%v) = %d", corners, err)
		}
		for k := range 30 {
			random := sample.Bytes(len(corners), uint64(100*i+k))
			sum, x, y := new(big.Rat), new(big.Rat), new(big.Rat)
			for at, p := range corners {
				weight := big.NewRat(int64(random[at]), 1)
				if k%3 == 0 && (at+k)%len(corners) > 1 {
					weight = new(big.Rat)
				}
				sum, x, y = plus(sum, weight), plus(x, times(weight, value(p[0]))), plus(y, times(weight, value(p[1])))
			}
			if sum.Sign() == 0 {
				continue
			}
			x.Quo(x, sum)
			y.Quo(y, sum)
			p := [2]api.Ratio{{Num: x.Num().String(), Den: x.Denom().String()}, {Num: y.Num().String(), Den: y.Denom().String()}}
			if !contains(r, p) {
				t.Errorf("Polygon(%v) does not contain %v", corners, p)
			}
		}
	}
}

// P13.5: a polygon contains a point exactly if one of the triangles does into which it is
// divided from its first corner.
func TestPolygonMembership(t *testing.T) {
	t.Parallel()
	count := map[string]int{}
	for i := range 60 {
		corners := convex(3+i%22, uint64(i))
		r, err := region.Polygon(corners)
		if err != api.OK {
			t.Fatalf("Polygon(%v) = %d", corners, err)
		}
		list := append(around(20, uint64(i)), corners...)
		for k, p := range corners {
			q := corners[(k+1)%len(corners)]
			list = append(list, between(p, corners[(k+len(corners)/2)%len(corners)], number("1/3")))
			for _, s := range sample.Numbers("1/2 -1/1000 1001/1000") {
				list = append(list, between(p, q, s))
			}
		}
		for _, p := range list {
			want := false
			for k := 2; k < len(corners); k++ {
				want = want || isCombination([3][2]api.Ratio{corners[0], corners[k-1], corners[k]}, p)
			}
			if contains(r, p) != want {
				t.Errorf("Polygon(%v) contains %v: not %t", corners, p, want)
			}
			count[strconv.FormatBool(want)+" "+strconv.FormatBool(isOnCurve(r, p))]++
		}
	}
	if len(count) != 4 || count["true false"] < 300 || count["false false"] < 50 {
		t.Error(count)
	}
}

// P13.6: the laws of a boolean algebra hold for membership.
func TestLaws(t *testing.T) {
	t.Parallel()
	or := func(a, b api.Region) api.Region { return combined(api.RUnion, a, b) }
	and := func(a, b api.Region) api.Region { return combined(api.RIntersect, a, b) }
	less := func(a, b api.Region) api.Region { return combined(api.RMinus, a, b) }
	none := api.Region{}
	laws := []func(a, b, c api.Region) (api.Region, api.Region){
		func(a, b, c api.Region) (api.Region, api.Region) { return or(a, b), or(b, a) },
		func(a, b, c api.Region) (api.Region, api.Region) { return and(a, b), and(b, a) },
		func(a, b, c api.Region) (api.Region, api.Region) { return or(or(a, b), c), or(a, or(b, c)) },
		func(a, b, c api.Region) (api.Region, api.Region) { return and(and(a, b), c), and(a, and(b, c)) },
		func(a, b, c api.Region) (api.Region, api.Region) { return and(a, or(b, c)), or(and(a, b), and(a, c)) },
		func(a, b, c api.Region) (api.Region, api.Region) { return or(a, and(b, c)), and(or(a, b), or(a, c)) },
		func(a, b, c api.Region) (api.Region, api.Region) { return or(a, and(a, b)), a },
		func(a, b, c api.Region) (api.Region, api.Region) { return and(a, or(a, b)), a },
		func(a, b, c api.Region) (api.Region, api.Region) { return or(a, a), a },
		func(a, b, c api.Region) (api.Region, api.Region) { return and(a, a), a },
		func(a, b, c api.Region) (api.Region, api.Region) { return less(a, a), none },
		func(a, b, c api.Region) (api.Region, api.Region) { return or(a, none), a },
		func(a, b, c api.Region) (api.Region, api.Region) { return and(a, none), none },
		func(a, b, c api.Region) (api.Region, api.Region) {
			return less(c, or(a, b)), and(less(c, a), less(c, b))
		},
		func(a, b, c api.Region) (api.Region, api.Region) {
			return less(c, and(a, b)), or(less(c, a), less(c, b))
		},
		func(a, b, c api.Region) (api.Region, api.Region) { return less(a, less(a, b)), and(a, b) },
		func(a, b, c api.Region) (api.Region, api.Region) { return or(less(a, b), and(a, b)), a },
		func(a, b, c api.Region) (api.Region, api.Region) { return and(less(a, b), b), none },
		func(a, b, c api.Region) (api.Region, api.Region) { return or(less(a, b), b), or(a, b) },
		func(a, b, c api.Region) (api.Region, api.Region) { return less(less(a, b), c), less(a, or(b, c)) },
	}
	list := modest(18, 82)
	trues := 0
	for i := range 160 {
		a, b, c := list[i%len(list)], list[(i*5+i/7)%len(list)], list[(i*11+i/3)%len(list)]
		for k, law := range laws {
			left, right := law(a, b, c)
			for _, p := range around(4, uint64(20*i+k)) {
				is := contains(left, p)
				if contains(right, p) != is {
					t.Errorf("law %d for %s, %s and %s at %v", k, text(a), text(b), text(c), p)
				}
				if is {
					trues++
				}
			}
		}
	}
	if trues < 1000 {
		t.Errorf("only %d points are inside", trues)
	}
}

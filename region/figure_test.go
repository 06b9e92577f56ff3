package region_test

import (
	"slices"
	"testing"

	"workpiece/api"
	"workpiece/region"
	"workpiece/sample"
)

// checkValid checks that what is not refused is a valid region.
func checkValid(t *testing.T, r api.Region, err api.Errno) {
	t.Helper()
	if err == api.OK && !region.Valid(r) {
		t.Errorf("not valid: %s", text(r))
	}
}

// P13.1: rectangles at all small sides, also at such that are in the wrong order.
func TestRectangle(t *testing.T) {
	list := sample.Numbers("0 1 -1 2 1/2 -1/3 5")
	built := 0
	check := func(x0, y0, x1, y1 api.Ratio) {
		r, err := region.Rectangle(x0, y0, x1, y1)
		checkValid(t, r, err)
		if err == api.OK {
			built++
		}
		if got, want := regionOutcome(r, err), wantRectangle(x0, y0, x1, y1); got != want {
			t.Errorf("Rectangle(%.200v, %.200v, %.200v, %.200v) = %.900s instead of %.900s", x0, y0, x1, y1, got, want)
		}
	}
	for i := range 7 * 7 * 7 * 7 {
		check(list[i%7], list[i/7%7], list[i/49%7], list[i/343])
	}
	all := sample.LargeFractions()
	for i, a := range all {
		b := all[(i*7+3)%len(all)]
		check(a, number("0"), b, number("1"))
		check(number("0"), a, number("1"), b)
		check(a, b, b, a)
		check(a, a, b, b)
	}
	if built < 500 {
		t.Errorf("only %d rectangles", built)
	}
	l := sample.Numbers("0 0 1 1")
	for _, wrong := range sample.InvalidFractions() {
		for i := range l {
			changed := slices.Clone(l)
			changed[i] = wrong
			check(changed[0], changed[1], changed[2], changed[3])
		}
	}
}

// P13.1: discs with small radii, with large ones, and with none.
func TestDisc(t *testing.T) {
	count := map[bool]int{}
	check := func(x, y, radius api.Ratio) {
		r, err := region.Disc(x, y, radius)
		checkValid(t, r, err)
		count[err == api.OK]++
		if got, want := regionOutcome(r, err), wantDisc(x, y, radius); got != want {
			t.Errorf("Disc(%.200v, %.200v, %.200v) = %.900s instead of %.900s", x, y, radius, got, want)
		}
	}
	list := append(sample.Numbers("0 1 -1 2 1/2 -1/3 5"), sample.InvalidFractions()...)
	for _, x := range list {
		for _, y := range list {
			check(x, y, number("5/3"))
			check(number("3"), x, y)
			check(x, number("-7"), y)
		}
	}
	for _, radius := range slices.Concat(sample.LargeFractions(), sample.Fractions(200, 120, 31)) {
		check(radius, number("1"), radius)
		check(number("1"), radius, radius)
	}
	if count[true] < 400 || count[false] < 400 {
		t.Error(count)
	}
}

// checkPolygon checks Polygon as the chapter computes it, and returns whether there is
// one.
func checkPolygon(t *testing.T, points [][2]api.Ratio) bool {
	t.Helper()
	r, err := region.Polygon(points)
	checkValid(t, r, err)
	if got, want := regionOutcome(r, err), wantPolygon(points); got != want {
		t.Errorf("Polygon(%.900v) = %.900s instead of %.900s", points, got, want)
	}
	return err == api.OK
}

// turn returns the sign of the area of the triangle with the corners p, q and r, which
// is positive if they are counterclockwise.
func turn(p, q, r [2]api.Ratio) int {
	left := times(minus(value(q[0]), value(p[0])), minus(value(r[1]), value(p[1])))
	return left.Cmp(times(minus(value(q[1]), value(p[1])), minus(value(r[0]), value(p[0]))))
}

// P13.1: all triangles and quadrangles of a small grid. They are strictly convex and
// counterclockwise exactly if each corner turns left.
func TestPolygonSmall(t *testing.T) {
	t.Parallel()
	grid := pairs("0 0 1 0 2 0 0 1 1 1 2 1 0 2 1 2 2 2")
	count := map[int]int{}
	for corners := 3; corners <= 4; corners++ {
		for i := range 9 * 9 * 9 * 9 {
			list := [][2]api.Ratio{grid[i%9], grid[i/9%9], grid[i/81%9], grid[i/729]}[:corners]
			if corners == 3 && i >= 729 {
				break
			}
			want := true
			for k := range list {
				want = want && turn(list[k], list[(k+1)%corners], list[(k+2)%corners]) > 0
			}
			if checkPolygon(t, list) != want {
				t.Errorf("Polygon(%v) is refused: %t", list, want)
			}
			if want {
				count[corners]++
			}
		}
	}
	if count[3] != 3*76 || count[4] < 200 {
		t.Error(count)
	}
}

// P13.1: convex polygons with as many corners as there can be, and with more; their
// corners clockwise, in any other order, moved inside, doubled, and with one on an edge.
func TestPolygon(t *testing.T) {
	t.Parallel()
	for i := range 80 {
		corners := 3 + i%22
		list := convex(corners, uint64(i))
		if !checkPolygon(t, list) {
			t.Errorf("Polygon(%v) is refused", list)
		}
		turned := slices.Concat(list[i%corners:], list[:i%corners])
		if !checkPolygon(t, turned) {
			t.Errorf("Polygon(%v) is refused", turned)
		}
		clockwise := slices.Clone(list)
		slices.Reverse(clockwise)
		exchanged := slices.Clone(list)
		exchanged[i%corners], exchanged[(i+1)%corners] = list[(i+1)%corners], list[i%corners]
		half := number("1/2")
		p, q := list[i%corners], list[(i+1)%corners]
		middle := [2]api.Ratio{mul(half, add(p[0], q[0])), mul(half, add(p[1], q[1]))}
		onEdge := slices.Insert(slices.Clone(list), i%corners+1, middle)
		doubled := slices.Insert(slices.Clone(list), i%corners, p)
		far := slices.Insert(slices.Clone(list), corners/2, p)
		for _, wrong := range [][][2]api.Ratio{clockwise, exchanged, onEdge, doubled, far, slices.Concat(list, list), list[:2], list[:1], nil} {
			if checkPolygon(t, wrong) {
				t.Errorf("Polygon(%v) is accepted", wrong)
			}
		}
	}
	for corners := 22; corners <= 40; corners++ {
		if list := convex(corners, uint64(corners)); checkPolygon(t, list) != (corners <= 24) {
			t.Errorf("Polygon with %d corners", corners)
		}
	}
	if checkPolygon(t, slices.Repeat(convex(24, 1), 1000)) {
		t.Error("Polygon with 24000 corners")
	}
}

// P13.1: stars, of which each corner turns left, too; and corners of a polygon in all
// orders.
func TestPolygonOrder(t *testing.T) {
	for corners := 5; corners <= 24; corners++ {
		list := convex(corners, uint64(corners))
		for step := 1; step < corners; step++ {
			var star [][2]api.Ratio
			for k := range corners {
				star = append(star, list[k*step%corners])
			}
			if checkPolygon(t, star) != (step == 1) {
				t.Errorf("Polygon of each %d. of %d corners", step, corners)
			}
		}
	}
	list := pairs("0 0 4 0 6 3 3 6 -1 2")
	accepted := 0
	for i := range 3125 {
		order := []int{i % 5, i / 5 % 5, i / 25 % 5, i / 125 % 5, i / 625}
		if checkPolygon(t, sample.Reordered(list, order)) {
			accepted++
		}
	}
	if accepted != 5 {
		t.Errorf("%d orders are accepted", accepted)
	}
}

// P13.1: polygons with large corners, for which something is too large, or nearly so.
func TestPolygonLarge(t *testing.T) {
	t.Parallel()
	built, refusals := 0, 0
	for i := range 300 {
		list := convex(3+i%4, uint64(i))
		length := 5 + i/3
		factors, shifts := sample.Fractions(2, length, uint64(i)), sample.Fractions(2, 1+i%40, uint64(i)+1<<50)
		for k := range list {
			for axis := range 2 {
				factor := factors[axis]
				if sign(factor) < 0 {
					factor = negative(factor)
				}
				list[k][axis] = add(mul(list[k][axis], factor), shifts[axis])
			}
		}
		if checkPolygon(t, list) {
			built++
		} else {
			refusals++
		}
	}
	if built < 50 || refusals < 50 {
		t.Errorf("%d polygons, %d refusals", built, refusals)
	}
}

// P13.1: each of the numbers that are calculated for a triangle is too large for some
// triangles, and what is not needed for it is not.
func TestPolygonLimits(t *testing.T) {
	power := sample.Power
	built := 0
	list := []api.Ratio{number("0"), number("1"), number("-1")}
	for _, size := range []int{49, 50, 66, 67, 99, 100, 101, 150, 199} {
		list = append(list, number(power(size)), number("-"+power(size)), sample.Fraction("1", power(size)), number(sample.Nines()[:size]))
	}
	for i, a := range list {
		for k, b := range list {
			c := list[(3*i+5*k)%len(list)]
			for _, triangle := range [][][2]api.Ratio{
				{{a, number("0")}, {b, number("0")}, {c, number("1")}}, {{number("0"), a}, {number("0"), b}, {number("-1"), c}},
				{{number("0"), number("0")}, {a, b}, {number("-1"), c}}, {{a, b}, {c, b}, {a, list[(i+k)%len(list)]}},
				{{number("0"), number("0")}, {a, number("0")}, {number("0"), b}}, {{c, c}, {a, c}, {c, b}},
			} {
				if checkPolygon(t, triangle) {
					built++
				}
			}
		}
	}
	if built < 500 {
		t.Errorf("only %d triangles", built)
	}
}

// P13.1: corners that are not valid.
func TestPolygonInvalid(t *testing.T) {
	for _, wrong := range sample.InvalidFractions() {
		for i := range 8 {
			list := pairs("0 0 4 0 4 4 0 4")
			list[i/2][i%2] = wrong
			if checkPolygon(t, list) {
				t.Errorf("Polygon(%.300v) is accepted", list)
			}
		}
	}
}

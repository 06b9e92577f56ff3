package region_test

import (
	"slices"
	"strconv"
	"testing"

	"workpiece/api"
	"workpiece/region"
	"workpiece/sample"
)

// checkSide checks Side as the chapter computes it, and returns whether there is one.
func checkSide(t *testing.T, c api.Curve, x, y api.Ratio) bool {
	t.Helper()
	side, err := region.Side(c, x, y)
	if got, want := sideOutcome(side, err), wantSide(c, x, y); got != want {
		t.Errorf("Side(%.300v; %.300v, %.300v) = %s instead of %s", c, x, y, got, want)
	}
	return err == api.OK
}

// P13.1, P13.3: curves and points with small coordinates, all sides of them; Side is the
// sign of the exact number.
func TestSide(t *testing.T) {
	count := map[string]int{}
	coordinates := sample.Numbers("0 1 -1 2 -3 5 3/2 -1/2")
	for _, c := range append(sample.Curves(300, few, 11), sample.CurvesOf("circle 0 0 25; line 1 0 2; line -1 0 2; line 0 1 -3; line 0 -1 5; line 1 1 2; circle 1 -3 1/4")...) {
		for _, x := range coordinates {
			for _, y := range coordinates {
				checkSide(t, c, x, y)
				want := exactSide(c, x, y)
				count[strconv.Itoa(c.Kind)+": "+strconv.Itoa(want)]++
				if got, err := region.Side(c, x, y); got != want || err != api.OK {
					t.Errorf("Side(%v; %v, %v) = %d, %d instead of %d", c, x, y, got, err, want)
				}
			}
		}
	}
	for _, kind := range []string{"1: 1", "1: 0", "1: -1", "2: 1", "2: 0", "2: -1"} {
		if count[kind] < 50 {
			t.Errorf("only %d times %s", count[kind], kind)
		}
	}
}

// P13.1, P13.3: large coordinates. What is too large has no Side; everything else has the
// exact one.
func TestSideLarge(t *testing.T) {
	t.Parallel()
	places := points(120, large(12), 13)
	exact, refusals := 0, 0
	for _, c := range sample.Curves(120, large(14), 15) {
		for _, p := range places {
			if !checkSide(t, c, p[0], p[1]) {
				refusals++
				continue
			}
			exact++
			if got, _ := region.Side(c, p[0], p[1]); got != exactSide(c, p[0], p[1]) {
				t.Errorf("Side(%v; %v) = %d", c, p, got)
			}
		}
	}
	if exact < 2000 || refusals < 2000 {
		t.Errorf("only %d sides, %d refusals", exact, refusals)
	}
}

// P13.1, P13.3: points on a curve with large coordinates, and very close to it.
func TestSideClose(t *testing.T) {
	checked := 0
	near := sample.Numbers("0 1/1" + sample.Power(40) + " -1/1" + sample.Power(40))
	for i, c := range sample.Curves(200, slices.Concat(few, sample.Fractions(60, 10, 16)), 17) {
		for k, p := range points(10, sample.Fractions(20, 12, 18), uint64(i)) {
			// The curve is put through the point, and then the point is moved a little.
			if c.Kind == api.KLine {
				c.C = add(mul(c.A, p[0]), mul(c.B, p[1]))
			} else {
				dx, dy := sub(p[0], c.A), sub(p[1], c.B)
				c.C = add(mul(dx, dx), mul(dy, dy))
			}
			if !sample.IsCurve(c) {
				continue
			}
			for _, by := range near {
				moved := p
				moved[k%2] = add(p[k%2], by)
				got, err := region.Side(c, moved[0], moved[1])
				if err != api.OK || got != exactSide(c, moved[0], moved[1]) || by.Num == "0" && got != 0 {
					t.Errorf("Side(%v; %v) = %d, %d", c, moved, got, err)
				}
				checked++
			}
		}
	}
	if checked < 5000 {
		t.Errorf("only %d points are checked", checked)
	}
}

// P13.1: curves that are not valid, and points that are none.
func TestSideInvalid(t *testing.T) {
	one := number("1")
	for _, c := range sample.InvalidCurves() {
		if got := sideOutcome(region.Side(c, one, one)); got != refused {
			t.Errorf("Side(%.300v) = %s", c, got)
		}
	}
	for _, wrong := range sample.InvalidFractions() {
		for _, c := range sample.CurvesOf("line 1 0 2; line 0 -1 2; line -1 2 1; circle 0 0 25") {
			for _, p := range [][2]api.Ratio{{wrong, one}, {one, wrong}, {wrong, wrong}} {
				if got := sideOutcome(region.Side(c, p[0], p[1])); got != refused {
					t.Errorf("Side(%v; %.300v) = %s", c, p, got)
				}
			}
		}
	}
}

// P13.1: products that are just not too large, and just so, on each way to a Side.
func TestSideLimits(t *testing.T) {
	nines, power := sample.Nines(), sample.Power(199)
	zero, ten := number("0"), number("10")
	half := number(nines[:100])
	for i, c := range []struct {
		curve string
		x, y  api.Ratio
		want  string
	}{
		{"line 1 0 5", number(nines), number(nines), "-1"},
		{"line -1 0 " + nines, number(nines), zero, "1"},
		{"line 1 1 5", number(nines), number("1"), refused},
		{"line 1 1 5", number(nines), number("-1"), "-1"},
		{"line 1 1 5", number(nines), zero, "-1"},
		{"line 1 10 5", zero, number(power), refused},
		{"line 1 10 5", zero, number(nines[:199]), "-1"},
		{"line 0 1 5", number(nines), ten, "-1"},
		{"line 1 -1 0", number(nines), number("-" + nines), refused},
		{"line 1 -1 0", number(nines), number(nines), "0"},
		{"circle 0 0 1", half, zero, "-1"},
		{"circle 0 0 1", zero, number(sample.Power(100)), refused},
		{"circle 0 0 1", number(sample.Power(100)), zero, refused},
		{"circle 0 0 1", half, half, refused},
		{"circle 0 0 " + nines, half, zero, "1"},
		{"circle " + nines + " 0 1", number("-1"), zero, refused},
		{"circle " + nines + " 0 1", number(nines), zero, "1"},
		{"circle 0 " + nines + " 1", zero, number("-1"), refused},
		{"circle 0 " + nines + " 1", number("-1"), number(nines), "0"},
	} {
		if got := sideOutcome(region.Side(sample.Curve(c.curve), c.x, c.y)); got != c.want {
			t.Errorf("%d: Side = %s instead of %s", i, got, c.want)
		}
		checkSide(t, sample.Curve(c.curve), c.x, c.y)
	}
}

package region_test

import (
	"slices"
	"testing"

	"workpiece/api"
	"workpiece/region"
	"workpiece/sample"
)

// checkMove checks Move as the chapter computes it, and returns whether there is a
// result.
func checkMove(t *testing.T, r api.Region, dx, dy api.Ratio) bool {
	t.Helper()
	moved, err := region.Move(r, dx, dy)
	checkValid(t, moved, err)
	if got, want := regionOutcome(moved, err), wantMove(r, dx, dy); got != want {
		t.Errorf("Move(%.900s; %.300v, %.300v) = %.900s instead of %.900s", text(r), dx, dy, got, want)
	}
	return err == api.OK
}

// checkMirror checks Mirror as the chapter computes it, and returns whether there is a
// result.
func checkMirror(t *testing.T, r api.Region, x api.Ratio) bool {
	t.Helper()
	mirrored, err := region.Mirror(r, x)
	checkValid(t, mirrored, err)
	if got, want := regionOutcome(mirrored, err), wantMirror(r, x); got != want {
		t.Errorf("Mirror(%.900s; %.300v) = %.900s instead of %.900s", text(r), x, got, want)
	}
	return err == api.OK
}

// P13.1: regions of all sizes, moved and mirrored by small fractions.
func TestTransform(t *testing.T) {
	t.Parallel()
	for i, r := range sample.Regions(250, few, 51) {
		for _, p := range points(8, few, uint64(i)) {
			if !checkMove(t, r, p[0], p[1]) || !checkMirror(t, r, p[0]) {
				t.Errorf("%s is not moved by %v, or not mirrored", text(r), p)
			}
		}
	}
}

// P13.1: large fractions, for which something is too large, or nearly so.
func TestTransformLarge(t *testing.T) {
	t.Parallel()
	moved, mirrored := map[bool]int{}, map[bool]int{}
	list := large(52)
	for i, c := range sample.Curves(150, list, 53) {
		for _, p := range points(30, list, uint64(i)) {
			r := within(c)
			moved[checkMove(t, r, p[0], p[1])]++
			mirrored[checkMirror(t, r, p[0])]++
		}
	}
	for i, r := range sample.Regions(75, list, 54) {
		for _, p := range points(6, list, uint64(i)) {
			moved[checkMove(t, r, p[0], p[1])]++
			mirrored[checkMirror(t, r, p[0])]++
		}
	}
	if moved[true] < 1000 || moved[false] < 1000 || mirrored[true] < 1000 || mirrored[false] < 1000 {
		t.Error(moved, mirrored)
	}
}

// P13.1: numbers that are just not too large, and just so, on each way to a result.
func TestTransformLimits(t *testing.T) {
	nines, power := sample.Nines(), sample.Power(199)
	half := "4" + nines[:199]
	zero := "0"
	for i, c := range []struct {
		curve  string
		dx, dy string
		want   string
	}{
		{"line 1 0 0", nines, nines, "line 1 0 " + nines},
		{"line 1 0 1", nines, zero, ""},
		{"line 0 1 1", nines, zero, "line 0 1 1"},
		{"line 0 1 1", zero, nines, ""},
		{"line 1 10 1", zero, power, ""},
		{"line 1 1 1", nines, "-5", ""},
		{"line 1 1 -1", nines, "1", "line 1 1 " + nines},
		{"line 1 1 -1", "1", nines, "line 1 1 " + nines},
		{"circle 0 0 1", nines, nines, "circle " + nines + " " + nines + " 1"},
		{"circle 1 0 1", nines, zero, ""},
		{"circle 0 1 1", zero, nines, ""},
		{"circle 0 1 " + nines, nines, zero, "circle " + nines + " 1 " + nines},
	} {
		want := refused
		if c.want != "" {
			want = text(within(sample.Curve(c.want)))
		}
		r := within(sample.Curve(c.curve))
		if got := regionOutcome(region.Move(r, number(c.dx), number(c.dy))); got != want {
			t.Errorf("%d: Move = %s instead of %s", i, got, want)
		}
		checkMove(t, r, number(c.dx), number(c.dy))
	}
	for i, c := range []struct{ curve, x, want string }{
		{"line 1 0 0", half, "line -1 0 -" + nines[:199] + "8"},
		{"line 1 0 0", "5" + power[1:], ""},
		{"line 0 1 0", "5" + power[1:], ""},
		{"line 1 0 -2", half, ""},
		{"line 1 0 -1", half, "line -1 0 -" + nines},
		{"line -1 0 1", half, "line 1 0 " + nines},
		{"circle 0 0 1", half, "circle " + nines[:199] + "8 0 1"},
		{"circle 0 0 1", "5" + power[1:], ""},
		{"circle -1 0 1", half, "circle " + nines + " 0 1"},
		{"circle -2 0 1", half, ""},
		{"circle " + nines + " 0 1", half, "circle -1 0 1"},
	} {
		want := refused
		if c.want != "" {
			want = text(within(sample.Curve(c.want)))
		}
		r := within(sample.Curve(c.curve))
		if got := regionOutcome(region.Mirror(r, number(c.x))); got != want {
			t.Errorf("%d: Mirror = %s instead of %s", i, got, want)
		}
		checkMirror(t, r, number(c.x))
	}
}

// P13.1: the empty region is moved and mirrored by all that is a fraction, and by nothing
// else; a curve that is too large makes the region so, wherever it stands.
func TestTransformEmpty(t *testing.T) {
	one := number("1")
	for _, x := range slices.Concat(sample.LargeFractions(), sample.InvalidFractions()) {
		none := api.Region{}
		if isFine := areFractions(x); checkMove(t, none, x, one) != isFine || checkMove(t, none, one, x) != isFine || checkMirror(t, none, x) != isFine {
			t.Errorf("the empty region, and %.300v", x)
		}
	}
	for at := range 4 {
		r := rectangle("0 0 2 2")
		r.Curves[at] = sample.Curve("circle " + sample.Nines() + " 5 1")
		if checkMove(t, r, one, one) || checkMirror(t, r, number("-1")) {
			t.Errorf("the circle at %d is moved or mirrored", at)
		}
	}
}

// P13.1: regions that are not valid, and distances that are none.
func TestTransformInvalid(t *testing.T) {
	one := number("1")
	for _, r := range sample.InvalidRegions() {
		if checkMove(t, r, one, one) || checkMirror(t, r, one) {
			t.Errorf("%.500s is moved or mirrored", text(r))
		}
	}
	for _, r := range []api.Region{rectangle("0 0 2 2"), disc("0 0 5"), within(sample.Curve("line 0 1 2")), within(sample.Curve("line -1 0 2"))} {
		for _, wrong := range sample.InvalidFractions() {
			if checkMove(t, r, wrong, one) || checkMove(t, r, one, wrong) || checkMove(t, r, wrong, wrong) || checkMirror(t, r, wrong) {
				t.Errorf("%s is moved or mirrored by %.300v", text(r), wrong)
			}
		}
	}
}

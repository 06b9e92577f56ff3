package solid_test

import (
	"testing"

	"workpiece/api"
	"workpiece/sample"
	"workpiece/solid"
)

// checkMove checks Move as the chapter defines it, and returns the outcome.
func checkMove(t *testing.T, s api.Solid, d [3]api.Ratio) string {
	t.Helper()
	moved, err := solid.Move(s, d[0], d[1], d[2])
	got, want := outcome(moved, err), wantMove(s, d[0], d[1], d[2])
	if got != want {
		t.Errorf("Move(%.900s; %.300v) = %.900s instead of %.900s", text(s), d, got, want)
	}
	if err == api.OK && !solid.Valid(moved) {
		t.Errorf("Move(%.900s; %.300v) is not valid", text(s), d)
	}
	return got
}

// P15.1: many solids, moved by small and large distances.
func TestMove(t *testing.T) {
	t.Parallel()
	count := map[bool]int{}
	for i, s := range solids(51, 51) {
		list := sample.Points(4, few, few, uint64(i))
		for _, d := range sample.Points(3, large(52), large(53), uint64(i)) {
			list = append(list, d, [3]api.Ratio{d[0], number("0"), number("1")}, [3]api.Ratio{number("0"), d[1], number("0")}, [3]api.Ratio{number("0"), number("1/2"), d[2]})
		}
		for _, d := range list {
			count[checkMove(t, s, d) == refused]++
		}
	}
	if count[true] < 500 || count[false] < 500 {
		t.Error(count)
	}
}

// P15.1: all regions are moved, all ends become higher, and all else is left as it is.
func TestMoveKnown(t *testing.T) {
	s := sample.Solid("add 0 3 rectangle 0 0 4 4; cut 1 5 disc 2 2 1; add 1/2 1 line 1 1 1")
	for i, c := range []struct{ by, want string }{
		{"0 0 0", "add 0 3 rectangle 0 0 4 4; cut 1 5 disc 2 2 1; add 1/2 1 line 1 1 1"},
		{"1 0 -1/2", "add -1/2 5/2 rectangle 1 0 5 4; cut 1/2 9/2 disc 3 2 1; add 0 1/2 line 1 1 2"},
		{"-2 7 0", "add 0 3 rectangle -2 7 2 11; cut 1 5 disc 0 9 1; add 1/2 1 line 1 1 6"},
		{"0 0 10", "add 10 13 rectangle 0 0 4 4; cut 11 15 disc 2 2 1; add 21/2 11 line 1 1 1"},
	} {
		if got, want := checkMove(t, s, [3]api.Ratio(sample.Numbers(c.by))), text(sample.Solid(c.want)); got != want {
			t.Errorf("%d: %s instead of %s", i, got, want)
		}
	}
}

// P15.1: what is too large in one of the prisms, or at one of the ends, is refused.
func TestMoveTooLarge(t *testing.T) {
	nines := number(sample.Nines())
	base := sample.Solid("add 0 3 rectangle 0 0 4 4; cut 1 5 disc 2 2 1; add 1/2 1 line 0 1 1")
	for i, c := range []struct {
		prisms []api.Prism
		by     string
		fits   bool
	}{
		{base.Prisms, sample.Power(150) + " 1 1", true}, {base.Prisms, "1 1 " + sample.Nines(), false}, {base.Prisms, "1 1 " + sample.Power(150), true}, {base.Prisms, sample.Nines() + " 0 0", false}, {base.Prisms, "0 " + sample.Nines() + " 0", false},
		{base.Prisms[2:], sample.Nines() + " 0 0", true}, {base.Prisms[2:], "0 " + sample.Nines() + " 0", false},
		{[]api.Prism{base.Prisms[0], {Region: base.Prisms[0].Region, Lo: number("1"), Hi: nines}}, "1 1 1", false}, {[]api.Prism{base.Prisms[0], {Region: base.Prisms[0].Region, Lo: number("1"), Hi: nines}}, "1 1 -1", true},
		{[]api.Prism{{Region: base.Prisms[0].Region, Lo: number("-" + sample.Nines()), Hi: number("1")}}, "1 1 -1", false}, {[]api.Prism{{Region: base.Prisms[0].Region, Lo: number("-" + sample.Nines()), Hi: number("1")}}, "1 1 0", true}, {[]api.Prism{{Lo: number("0"), Hi: nines}}, "1 1 1", false}, {[]api.Prism{{Lo: number("0"), Hi: nines}}, sample.Nines() + " 1 0", true},
	} {
		if got := checkMove(t, api.Solid{Prisms: c.prisms}, [3]api.Ratio(sample.Numbers(c.by))); (got != refused) != c.fits {
			t.Errorf("%d: Move = %.300s", i, got)
		}
	}
}

// P15.1: solids and distances that are not valid, even if there is nothing to move.
func TestMoveInvalid(t *testing.T) {
	by := [3]api.Ratio(sample.Numbers("1 2 3"))
	for _, s := range sample.InvalidSolids() {
		if got := checkMove(t, s, by); got != refused {
			t.Errorf("Move(%.900s) = %s", text(s), got)
		}
	}
	for _, s := range []api.Solid{{}, drilled(), {Prisms: []api.Prism{{Lo: number("0"), Hi: number("1")}}}} {
		for _, wrong := range sample.InvalidFractions() {
			for i := range by {
				changed := by
				changed[i] = wrong
				if got := checkMove(t, s, changed); got != refused {
					t.Errorf("Move by %.300v = %s", changed, got)
				}
			}
		}
	}
}

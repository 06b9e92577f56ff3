package solid_test

import (
	"fmt"
	"slices"
	"strings"
	"testing"

	"workpiece/api"
	"workpiece/rational"
	"workpiece/region"
	"workpiece/sample"
	"workpiece/solid"
)

// checkCombine checks Combine as the chapter defines it, and returns the outcome.
func checkCombine(t *testing.T, op int, a, b api.Solid) string {
	t.Helper()
	s, err := solid.Combine(op, a, b)
	got, want := outcome(s, err), wantCombine(op, a, b)
	if got != want {
		t.Errorf("Combine(%d; %.900s; %.900s) = %.900s instead of %.900s", op, text(a), text(b), got, want)
	}
	if err == api.OK && !solid.Valid(s) {
		t.Errorf("Combine(%d; %.900s; %.900s) is not valid", op, text(a), text(b))
	}
	return got
}

// P15.1: many pairs of solids, with common levels, regions and curves and without.
func TestCombine(t *testing.T) {
	t.Parallel()
	count := map[string]int{}
	list := slices.Concat(shaped(25, 4, 31), solids(12, 32), sample.Solids(12, 3, sample.Shapes()[:4], heights[:4], 33))
	for i, a := range list {
		for k, b := range list {
			if i > 12 && k > 12 && (i+k)%6 > 0 {
				continue
			}
			for op := 1; op <= 5; op++ {
				switch got := checkCombine(t, op, a, b); {
				case got == refused:
					count[fmt.Sprint(op, " refused")]++
				default:
					count[fmt.Sprint(op, " ", min(3, strings.Count(got, "\n")))]++
				}
			}
		}
	}
	for _, kind := range []string{"2 refused", "3 refused", "4 refused", "2 1", "3 1", "4 1", "2 2", "3 2", "4 2", "2 3", "3 3", "4 3", "3 0", "4 0"} {
		if count[kind] < 40 {
			t.Error(kind, count)
		}
	}
}

// endsText returns a text of the ends of the prisms of s, which must be added, and have no
// feature.
func endsText(t *testing.T, s api.Solid) string {
	t.Helper()
	var out []string
	for _, p := range s.Prisms {
		out = append(out, rational.Print(p.Lo)+" "+rational.Print(p.Hi))
		if p.Cut || p.Feature != 0 {
			t.Errorf("a prism with Cut %t and Feature %d", p.Cut, p.Feature)
		}
	}
	return strings.Join(out, "; ")
}

// P15.1: slabs with the same region that follow each other are one prism, slabs without
// a region are none; cuts and features are gone.
func TestCombineKnown(t *testing.T) {
	union, intersect, minus := api.RUnion, api.RIntersect, api.RMinus
	for i, c := range []struct {
		op         int
		a, b, want string
	}{
		{union, "", "", ""}, {union, "add 0 3 disc 0 0 1", "", "0 3"}, {union, "", "add 0 3 disc 0 0 1", "0 3"}, {intersect, "add 0 3 disc 0 0 1", "", ""}, {intersect, "", "add 0 3 disc 0 0 1", ""}, {minus, "", "add 0 3 disc 0 0 1", ""}, {minus, "add 0 3 disc 0 0 1", "", "0 3"},
		{union, "cut 0 3 disc 0 0 1", "", ""}, {union, "cut 0 3 disc 0 0 1", "add 1 2 disc 0 0 2", "1 2"}, {minus, "add 0 3 disc 0 0 1", "add 0 3 disc 0 0 1", "0 3"}, {intersect, "add 0 3 disc 0 0 1", "add 1 2 disc 5 0 1", "1 2"},
		// Levels at which nothing changes.
		{minus, "add 0 4 disc 0 0 1", "cut 1 3 disc 0 0 2", "0 4"}, {union, "add 0 1 disc 0 0 1; add 1 2 disc 0 0 1", "", "0 2"}, {union, "add 0 1 disc 0 0 1", "add 1 2 disc 0 0 1", "0 2"}, {union, "add 0 1 disc 0 0 1; add 2 3 disc 0 0 1; cut 5 6 disc 0 0 1", "add 1 2 disc 0 0 1", "0 3"}, {union, "add 0 1 disc 0 0 1; add 2 3 disc 0 0 1", "add 1 2 disc 0 0 1; add 3 4 disc 0 0 1; add 4 5 disc 0 0 1", "0 5"},
		{intersect, "add 0 5 disc 0 0 1", "add 0 1 disc 0 0 2; add 1 2 disc 0 0 2; add 2 3 disc 0 0 3; add 3 4 disc 0 0 3", "0 2; 2 4"},
		// Gaps.
		{union, "add 0 1 disc 0 0 1; add 2 3 disc 0 0 1", "", "0 1; 2 3"}, {union, "add 0 1 disc 0 0 1", "add 2 3 disc 0 0 1; cut 1 2 disc 0 0 1", "0 1; 2 3"}, {union, "add 2 3 disc 0 0 1", "add 0 1 disc 0 0 1", "0 1; 2 3"}, {intersect, "add 0 3 disc 0 0 1", "add 0 1 disc 0 0 1; add 2 3 disc 0 0 1", "0 1; 2 3"},
		// Other regions above each other, though they contain the same points, or no points.
		{union, "add 0 1 disc 0 0 1", "add 1 2 disc 0 0 2", "0 1; 1 2"}, {union, "add 0 1 disc 0 0 1; add 2 3 disc 0 0 1", "add 1 2 disc 0 0 2", "0 1; 1 2; 2 3"}, {union, "add 0 1 disc 0 0 1", "add 1/2 2 disc 0 0 1", "0 1/2; 1/2 1; 1 2"}, {minus, "add 0 3 disc 0 0 1", "add 1 2 disc 5 0 1", "0 1; 1 2; 2 3"}, {minus, "add 0 3 disc 0 0 1", "add 1 2 disc 0 0 2", "0 1; 1 2; 2 3"},
		{union, "add 0 3 rectangle 0 0 4 4; cut 1 5 disc 2 2 1", "add 2 7 disc 2 2 1/2", "0 1; 1 2; 2 3; 3 7"},
	} {
		a, b := sample.Solid(c.a), sample.Solid(c.b)
		checkCombine(t, c.op, a, b)
		if got := endsText(t, combined(c.op, a, b)); got != c.want {
			t.Errorf("%d: %s instead of %s", i, got, c.want)
		}
	}
	box, ball := sample.Solid("add 0 4 rectangle 0 0 4 4"), sample.Solid("add 2 6 disc 2 2 1")
	got := combined(minus, box, ball)
	want := sample.Needed(region.Combine(minus, box.Prisms[0].Region, ball.Prisms[0].Region))
	if len(got.Prisms) != 2 || !region.Same(got.Prisms[0].Region, box.Prisms[0].Region) || !region.Same(got.Prisms[1].Region, want) {
		t.Errorf("the regions of %s", text(got))
	}
}

// floors returns a solid of count prisms over a line each, of which the first one begins
// at a height, and each other one so much higher than the one before it.
func floors(count int, from int, step int, high int) string {
	var out []string
	for i := range count {
		lo := from + i*step
		out = append(out, fmt.Sprintf("add %d %d line 1 0 %d", lo, lo+high, lo))
	}
	return strings.Join(out, "; ")
}

// P15.1: results with as many prisms as there can be, and with more.
func TestCombineLimits(t *testing.T) {
	union := api.RUnion
	for i, c := range []struct {
		op   int
		a, b string
		want int
	}{
		{union, floors(8, 0, 4, 2), floors(8, 2, 4, 2), 16}, {union, floors(9, 0, 4, 2), floors(8, 2, 4, 2), -1}, {union, floors(8, 0, 4, 2), floors(9, 2, 4, 2), -1}, {union, floors(16, 0, 4, 2), floors(16, 2, 4, 2), -1},
		{union, floors(16, 0, 2, 2), "", 16}, {union, floors(16, 0, 2, 1), "", 16}, {union, "", floors(16, -7, 3, 1), 16}, {union, floors(16, 0, 1, 1), "add 16 17 disc 0 0 1", -1}, {union, floors(16, 1, 1, 1), "add 0 1 disc 0 0 1", -1},
		// The last prism becomes higher, or another one does.
		{union, floors(16, 0, 1, 1), "add 16 17 line 1 0 15; add 17 18 line 1 0 15; add 18 19 line 1 0 15", 16}, {union, floors(15, 0, 2, 2), "add 30 31 disc 0 0 1; add 31 32 disc 0 0 1", 16}, {union, floors(8, 0, 2, 2), "add -2 -1 line 1 0 0; add -1 0 line 1 0 0; " + floors(8, 16, 2, 2), 16}, {union, floors(16, 0, 1, 1), "add 17 18 line 1 0 15", -1},
		// Slabs without a region do not count.
		{union, "cut 0 100 disc 0 0 1", floors(16, 0, 4, 2), 16}, {union, "cut 0 50 disc 0 0 1; add 50 100 disc 0 0 1", floors(15, 0, 3, 1), 16},
		// One prism is divided.
		{api.RMinus, "add 0 31 disc 0 0 1", floors(8, 1, 4, 2), 16}, {api.RMinus, "add 0 32 disc 0 0 1", floors(8, 1, 4, 2), -1}, {api.RIntersect, "add 0 100 disc 0 0 1", floors(16, 0, 2, 1), 16}, {api.RIntersect, "add 0 31 disc 0 0 1; add 0 3/2 disc 0 0 2", floors(16, 0, 2, 2), -1},
	} {
		got := checkCombine(t, c.op, sample.Solid(c.a), sample.Solid(c.b))
		if count := strings.Count(got, "\n"); (got == refused) != (c.want < 0) || c.want >= 0 && count != c.want {
			t.Errorf("%d: %d prisms: %.300s", i, count, got)
		}
	}
}

// P15.1: regions with too many curves or nodes, in a section or of the combination.
func TestCombineRegionLimits(t *testing.T) {
	lines := func(from, to int) string {
		var out []string
		for i := from; i < to; i++ {
			out = append(out, fmt.Sprintf("add 0 1 line 1 0 %d", i))
		}
		return strings.Join(out, "; ")
	}
	plates := func(count int) string {
		return strings.TrimSuffix(strings.Repeat("add 0 1 rectangle 0 0 1 1; ", count), "; ")
	}
	for i, c := range []struct {
		a, b string
		fits bool
	}{
		{lines(0, 12), lines(12, 24), true}, {lines(0, 13), lines(12, 24), true}, {lines(0, 13), lines(11, 24), true}, {lines(0, 13), lines(12, 25), false}, {lines(0, 16), lines(16, 24), true}, {lines(0, 16), lines(16, 25), false},
		{plates(7), plates(8), true}, {plates(8), plates(8), false}, {plates(15), "", true}, {plates(16), "", false}, {"", plates(16), false}, {plates(16) + "; cut 5 6 disc 0 0 1", "", false},
	} {
		if strings.Count(c.a, ";") >= 16 {
			continue
		}
		for op := api.RUnion; op <= api.RMinus; op++ {
			got := checkCombine(t, op, sample.Solid(c.a), sample.Solid(c.b))
			if (got != refused) != c.fits {
				t.Errorf("%d: Combine(%d) = %.300s", i, op, got)
			}
		}
	}
}

// P15.1: the middle of each slab is computed, also of one without prisms: half of a sum
// that must not be too large.
func TestMiddleTooLarge(t *testing.T) {
	nines, four := sample.Nines(), "4"+sample.Nines()[:199]
	long, longer, other := sample.Nines()[:100], sample.Nines()[:101], "7"+sample.Nines()[:100]
	for i, c := range []struct {
		// The ends of prisms over a disc: each of them is a fraction with the Num 1, unless
		// there is a sign before it, or an integer.
		ends string
		fits bool
	}{
		{"0 1", true}, {"0 1/" + long, true}, {"1/" + long + " 2", true}, {"-1/" + long + " 1/" + long, true}, {"-1/" + longer + " 1/" + longer, false}, {"0 1/" + longer, true}, {"1/" + longer + " 1/" + long, false},
		// The sum is not too large, but its half is.
		{"0 1/" + four, true}, {"0 1/" + nines, false}, {"-1/" + nines + " 0", false}, {"-1/" + four + " 0", true}, {"-1/" + nines + " 1/" + four, false},
		{"-" + nines + " " + nines, true}, {"1 " + nines, false}, {"0 " + nines, true}, {"-" + nines + " -1", false}, {"-" + nines + " 1", true},
		// Slabs without prisms, and between the ends of different prisms.
		{"0 1/" + other + " 1/" + longer + " 1", false}, {"0 1/" + long + " 1/3 1", true}, {"0 2 1 3", true}, {"0 1 1/" + other + " 1", true}, {"0 1 1/" + other + " 1 1/" + longer + " 1", false}, {"-5 -4 " + nines + " 1" + nines[:199], false},
	} {
		var s api.Solid
		for ends := range slices.Chunk(sample.Numbers(c.ends), 2) {
			lo, hi := ends[0], ends[1]
			if rational.Compare(lo, hi) > 0 {
				lo, hi = hi, lo
			}
			s.Prisms = append(s.Prisms, api.Prism{Region: sample.Shape("disc 0 0 1"), Lo: lo, Hi: hi})
		}
		for op := api.RUnion; op <= api.RMinus; op++ {
			for k, got := range []string{checkCombine(t, op, s, api.Solid{}), checkCombine(t, op, api.Solid{}, s), checkCombine(t, op, s, s)} {
				if (got != refused) != c.fits {
					t.Errorf("%d: %d: Combine(%d) = %.300s", i, k, op, got)
				}
			}
			checkCombine(t, op, s, drilled())
		}
		if got := checkEqual(t, s, s); (got != refused) != c.fits {
			t.Errorf("%d: Equal = %.300s", i, got)
		}
	}
}

// P15.1: solids that are not valid, and operations that are none, even if there is
// nothing to combine.
func TestCombineInvalid(t *testing.T) {
	for _, s := range sample.InvalidSolids() {
		for _, other := range []api.Solid{{}, drilled()} {
			for op := api.RUnion; op <= api.RMinus; op++ {
				if one, two := checkCombine(t, op, s, other), checkCombine(t, op, other, s); one != refused || two != refused {
					t.Errorf("Combine(%d) with %.900s = %.300s, %.300s", op, text(s), one, two)
				}
			}
		}
	}
	for _, op := range []int{-1 << 63, -2, -1, 0, 1, 5, 6, 1 << 40} {
		for _, a := range []api.Solid{{}, drilled()} {
			for _, b := range []api.Solid{{}, drilled()} {
				if got := checkCombine(t, op, a, b); got != refused {
					t.Errorf("Combine(%d) = %.300s", op, got)
				}
			}
		}
	}
}

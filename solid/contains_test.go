package solid_test

import (
	"slices"
	"testing"

	"workpiece/api"
	"workpiece/rational"
	"workpiece/sample"
	"workpiece/solid"
)

// checkContains checks Contains as the chapter defines it, and returns the outcome.
func checkContains(t *testing.T, s api.Solid, p [3]api.Ratio) string {
	t.Helper()
	got, want := truth(solid.Contains(s, p[0], p[1], p[2])), wantContains(s, p[0], p[1], p[2])
	if got != want {
		t.Errorf("Contains(%.900s; %.300v) = %s instead of %s", text(s), p, got, want)
	}
	return got
}

// P15.1: points at the ends and on curves belong to columns, and the last prism in whose
// column a point is decides.
func TestContainsKnown(t *testing.T) {
	for i, c := range []struct{ s, point, want string }{
		{"", "0 0 0", "false"},
		{"add 0 3 rectangle 0 0 4 4", "0 0 0", "true"}, {"add 0 3 rectangle 0 0 4 4", "4 4 3", "true"}, {"add 0 3 rectangle 0 0 4 4", "4 4 3000001/1000000", "false"}, {"add 0 3 rectangle 0 0 4 4", "4 4 -1/1000000", "false"}, {"add 0 3 rectangle 0 0 4 4", "-1/1000000 4 1", "false"},
		{"cut 0 3 rectangle 0 0 4 4", "1 1 1", "false"}, {"cut 0 3 rectangle 0 0 4 4; add 0 3 rectangle 0 0 4 4", "1 1 1", "true"}, {"add 0 3 rectangle 0 0 4 4; cut 0 3 rectangle 0 0 4 4", "1 1 1", "false"},
		{"add 0 3 rectangle 0 0 4 4; cut 1 5 disc 2 2 1", "2 2 1", "false"}, {"add 0 3 rectangle 0 0 4 4; cut 1 5 disc 2 2 1", "2 2 999999/1000000", "true"}, {"add 0 3 rectangle 0 0 4 4; cut 1 5 disc 2 2 1", "3 2 2", "false"}, {"add 0 3 rectangle 0 0 4 4; cut 1 5 disc 2 2 1", "3000001/1000000 2 2", "true"}, {"add 0 3 rectangle 0 0 4 4; cut 1 5 disc 2 2 1", "3 2 5", "false"},
		{"add 0 3 rectangle 0 0 4 4; cut 1 5 disc 2 2 1; add 2 4 disc 2 2 2", "2 2 2", "true"}, {"add 0 3 rectangle 0 0 4 4; cut 1 5 disc 2 2 1; add 2 4 disc 2 2 2", "2 2 3/2", "false"}, {"add 0 3 rectangle 0 0 4 4; cut 1 5 disc 2 2 1; add 2 4 disc 2 2 2", "2 2 4", "true"}, {"add 0 3 rectangle 0 0 4 4; cut 1 5 disc 2 2 1; add 2 4 disc 2 2 2", "2 2 9/2", "false"},
		{"cut 1 5 disc 2 2 1; add 0 3 rectangle 0 0 4 4", "2 2 2", "true"}, {"add 0 1 disc 0 0 1; add 1 2 disc 5 0 1; cut 2 3 disc 5 0 1", "5 0 1", "true"}, {"add 0 1 disc 0 0 1; add 1 2 disc 5 0 1; cut 2 3 disc 5 0 1", "5 0 2", "false"}, {"add 0 1 disc 0 0 1; add 1 2 disc 5 0 1; cut 2 3 disc 5 0 1", "0 0 2", "false"},
	} {
		if got := checkContains(t, sample.Solid(c.s), [3]api.Ratio(sample.Numbers(c.point))); got != c.want {
			t.Errorf("%d: Contains = %s", i, got)
		}
	}
}

// P15.1: many solids and points, small and large.
func TestContains(t *testing.T) {
	t.Parallel()
	count := map[string]int{}
	for i, s := range solids(51, 11) {
		list := sample.PointsNear(20, uint64(i))
		for _, p := range sample.Points(10, large(12), slices.Concat(heights, levelsOf(s)), uint64(i)) {
			list = append(list, p, [3]api.Ratio{p[0], number("0"), p[2]}, [3]api.Ratio{number("1/2"), p[1], p[2]}, [3]api.Ratio{number("1/2"), number("-1/3"), p[2]})
		}
		for _, p := range list {
			count[checkContains(t, s, p)]++
		}
	}
	if count["true"] < 800 || count["false"] < 800 || count[refused] < 800 {
		t.Error(count)
	}
}

// P15.1: a region for which a point is too large matters at the heights of its prism, at
// its ends, too, whatever the other prisms are; and nowhere else.
func TestContainsTooLarge(t *testing.T) {
	far := "disc 0 " + sample.Power(150) + " 1"
	for i, c := range []struct{ s, z, want string }{
		{"add 0 1 " + far, "0", refused}, {"add 0 1 " + far, "1/2", refused}, {"cut 0 1 " + far, "1", refused}, {"add 0 1 " + far, "-1/1000000", "false"}, {"cut 0 1 " + far, "1000001/1000000", "false"},
		{"add 0 1 " + far + "; add 0 2 disc 0 0 1", "1/2", refused}, {"add 0 2 disc 0 0 1; add 0 1 " + far, "1/2", refused}, {"cut 0 1 " + far + "; add 0 2 disc 0 0 1", "1/2", refused}, {"add 0 2 disc 0 0 1; cut 0 1 " + far, "1", refused},
		{"add 0 1 " + far + "; add 0 2 disc 0 0 1", "3/2", "true"}, {"add 0 2 disc 0 0 1; cut 0 1 " + far, "3/2", "true"}, {"add 0 1 " + far + "; cut 0 2 disc 0 0 1", "3/2", "false"},
	} {
		if got := checkContains(t, sample.Solid(c.s), [3]api.Ratio{number("0"), number("0"), number(c.z)}); got != c.want {
			t.Errorf("%d: Contains = %s", i, got)
		}
	}
	// Heights are compared even if they are the greatest ones that there are.
	greatest := []api.Ratio{number(sample.Nines()), number("-" + sample.Nines()), sample.Fraction("1", sample.Nines()), sample.Fraction("2", sample.Nines())}
	for _, lo := range greatest {
		for _, hi := range greatest {
			if rational.Compare(lo, hi) >= 0 {
				continue
			}
			s := drilled()
			s.Prisms[0].Lo, s.Prisms[0].Hi, s.Prisms = lo, hi, s.Prisms[:1]
			for _, z := range greatest {
				want := rational.Compare(lo, z) <= 0 && rational.Compare(z, hi) <= 0
				if got := checkContains(t, s, [3]api.Ratio{number("1"), number("1"), z}); got != truth(want, api.OK) {
					t.Errorf("from %v to %v at %v: %s", lo, hi, z, got)
				}
			}
		}
	}
}

// P15.1: solids and coordinates that are not valid are refused, even if there is nothing
// to compare them with.
func TestContainsInvalid(t *testing.T) {
	point := [3]api.Ratio(sample.Numbers("2 2 1/2"))
	for _, s := range sample.InvalidSolids() {
		if got := checkContains(t, s, point); got != refused {
			t.Errorf("Contains(%.900s) = %s", text(s), got)
		}
	}
	for _, s := range []api.Solid{{}, drilled(), {Prisms: make([]api.Prism, 0, 5)}, sample.Solid("add 7 8 disc 0 0 1")} {
		for _, wrong := range sample.InvalidFractions() {
			for i := range point {
				p := point
				p[i] = wrong
				if got := checkContains(t, s, p); got != refused {
					t.Errorf("Contains(%.300v) = %s", p, got)
				}
			}
		}
	}
}

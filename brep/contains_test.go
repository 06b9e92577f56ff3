package brep_test

import (
	"slices"
	"testing"

	"workpiece/api"
	"workpiece/brep"
	"workpiece/sample"
)

// checkContains checks Contains of b as the chapter defines it, and returns the outcome.
func checkContains(t *testing.T, b api.Brep, p [3]api.Ratio) string {
	t.Helper()
	got, want := membership(brep.Contains(b, p[0], p[1], p[2])), wantContains(b, p[0], p[1], p[2])
	if got != want {
		t.Errorf("Contains(%.900s; %.300s) = %s instead of %s", text(b), words(p[:]...), got, want)
	}
	return got
}

// P16.1: points of many representations, in all slabs, at all levels, below and above.
func TestContains(t *testing.T) {
	t.Parallel()
	count := map[string]int{}
	list := representations(solids(30, 21))
	for i, b := range append(list, handmade(list, 100, 22)...) {
		for _, p := range sample.PointsNear(15, uint64(i)) {
			count[checkContains(t, b, p)]++
		}
	}
	for _, kind := range []string{"-1", "0", "1", refused} {
		if count[kind] < 20 {
			t.Error(count)
		}
	}
}

// P16.1: points and curves with large numbers.
func TestContainsLarge(t *testing.T) {
	t.Parallel()
	count := map[string]int{}
	for i := range 60 {
		numbers := slices.Concat(few, sample.Fractions(20, []int{40, 70, 100, 150}[i%4], uint64(i)), sample.LargeFractions())
		b := api.Brep{Levels: few[:2], Curves: sample.Curves(1+i%3, numbers[:30], uint64(i))}
		for k, p := range sample.Points(4, numbers[:35], few, uint64(i)) {
			b.Cells = append(b.Cells, api.Cell{X: p[0], Y: p[1], Strip: k / 2})
		}
		b.Slabs = []api.Slab{{Inside: []bool{true, false, true, true}}}
		for _, p := range sample.Points(12, numbers, slices.Concat(sample.Numbers("1/2 1/3 1/7"), few), uint64(i)) {
			count[checkContains(t, b, p)]++
		}
		for _, cell := range b.Cells {
			count[checkContains(t, b, [3]api.Ratio{cell.X, cell.Y, fraction("1/2")})]++
		}
	}
	for _, kind := range []string{"-1", "0", "1", refused} {
		if count[kind] < 15 {
			t.Error(count)
		}
	}
}

// P16.1: all curves are looked at, even at a level, on a curve before, or outside all
// slabs; the cells only in a slab, and up to the first one that is found.
func TestContainsNeeded(t *testing.T) {
	far := fraction(sample.Power(150))
	line, circle := sample.Curve("line 1 0 2"), sample.Curve("circle 0 0 4")
	cell := func(x, y string) api.Cell { return api.Cell{X: fraction(x), Y: fraction(y)} }
	wrong := api.Cell{X: fraction("0"), Y: api.Ratio{Num: "2", Den: "2"}}
	slab := func(inside ...bool) []api.Slab { return []api.Slab{{Inside: inside}} }
	levels := sample.Numbers("0 1")
	found := api.Brep{Levels: levels, Curves: []api.Curve{line, circle}, Cells: []api.Cell{cell("0", "9"), cell("0", "1"), wrong}, Slabs: slab(false, true, false)}
	for i, c := range []struct {
		b    api.Brep
		p    [3]api.Ratio
		want string
	}{
		{found, [3]api.Ratio(sample.Numbers("0 0 1/2")), "1"}, {found, [3]api.Ratio(sample.Numbers("0 3 1/2")), "0"}, {found, [3]api.Ratio(sample.Numbers("3 3 1/2")), refused}, {found, [3]api.Ratio(sample.Numbers("3 3 0")), "-1"}, {found, [3]api.Ratio(sample.Numbers("3 3 2")), "0"}, {found, [3]api.Ratio(sample.Numbers("3 3 -2")), "0"},
		{found, [3]api.Ratio(sample.Numbers("2 3 2")), "-1"}, {found, [3]api.Ratio(sample.Numbers("2 3 1/2")), "-1"}, {found, [3]api.Ratio(sample.Numbers("0 2 1/2")), "-1"}, {found, [3]api.Ratio(sample.Numbers("2 0 1/2")), "-1"},
		{found, [3]api.Ratio{far, far, fraction("1/2")}, refused}, {found, [3]api.Ratio{far, far, fraction("0")}, refused}, {found, [3]api.Ratio{far, far, fraction("7")}, refused}, {found, [3]api.Ratio{fraction("2"), far, fraction("1/2")}, refused}, {found, [3]api.Ratio{fraction("2"), far, fraction("0")}, refused}, {found, [3]api.Ratio{fraction("2"), far, fraction("7")}, refused},
		{api.Brep{}, [3]api.Ratio{far, far, far}, "0"}, {api.Brep{Curves: found.Curves}, [3]api.Ratio(sample.Numbers("0 1 0")), "0"}, {api.Brep{Curves: found.Curves}, [3]api.Ratio(sample.Numbers("0 2 0")), "-1"}, {api.Brep{Levels: levels[:1]}, [3]api.Ratio(sample.Numbers("0 1 0")), "-1"}, {api.Brep{Levels: levels[:1]}, [3]api.Ratio(sample.Numbers("0 1 1")), "0"}, {api.Brep{Levels: levels[1:], Cells: found.Cells}, [3]api.Ratio(sample.Numbers("0 1 0")), "0"},
		{api.Brep{Levels: levels, Slabs: slab()}, [3]api.Ratio(sample.Numbers("0 1 1/2")), refused}, {api.Brep{Levels: levels, Slabs: slab()}, [3]api.Ratio(sample.Numbers("0 1 2")), "0"}, {api.Brep{Levels: levels, Slabs: slab()}, [3]api.Ratio(sample.Numbers("0 1 1")), "-1"},
		{api.Brep{Levels: levels, Cells: []api.Cell{wrong}, Slabs: slab(true)}, [3]api.Ratio{far, far, fraction("1/3")}, "1"}, {api.Brep{Levels: levels, Cells: []api.Cell{{}, wrong}, Slabs: slab(false, true)}, [3]api.Ratio{far, far, fraction("1/3")}, "0"},
	} {
		if got := checkContains(t, c.b, c.p); got != c.want {
			t.Errorf("%d: Contains = %s instead of %s", i, got, c.want)
		}
	}
}

// P16.1: the points of the example, and each slab of a solid of several ones.
func TestContainsKnown(t *testing.T) {
	tower := sample.Solid("add 0 1 rectangle 0 0 4 4; add 1 7/3 rectangle 0 0 2 4; cut 3/2 4 rectangle 0 0 4 2; add 3 4 disc 9 9 1")
	for i, c := range []struct {
		s    api.Solid
		p    string
		want string
	}{
		{drilled(), "2 2 1/2", "1"}, {drilled(), "2 2 2", "0"}, {drilled(), "2 2 1", "-1"}, {drilled(), "2 3 2", "-1"}, {drilled(), "1/2 2 2", "1"}, {drilled(), "1/2 2 4", "0"}, {drilled(), "9 2 2", "0"}, {drilled(), "2 2 -1/1000000", "0"}, {drilled(), "2 2 5000001/1000000", "0"}, {drilled(), "2 2 5", "-1"}, {drilled(), "2 2 0", "-1"}, {drilled(), "2 2 1/1000000", "1"}, {drilled(), "2 2 999999/1000000", "1"},
		{tower, "3 3 1/2", "1"}, {tower, "3 3 5/4", "0"}, {tower, "1 3 5/4", "1"}, {tower, "1 1 5/4", "1"}, {tower, "1 1 7/4", "0"}, {tower, "1 3 7/4", "1"}, {tower, "1 3 8/3", "0"}, {tower, "9 9 8/3", "0"}, {tower, "9 9 7/2", "1"}, {tower, "9 9 9/2", "0"}, {tower, "2 7 9/2", "-1"}, {tower, "10 9 1/2", "-1"}, {tower, "7 7 3/2", "-1"},
	} {
		if got := checkContains(t, built(c.s), [3]api.Ratio(sample.Numbers(c.p))); got != c.want {
			t.Errorf("%d: Contains at %s = %s instead of %s", i, c.p, got, c.want)
		}
	}
}

// P16.1: points and representations that are not valid.
func TestContainsInvalid(t *testing.T) {
	for i, b := range malformed() {
		for _, p := range sample.PointsNear(3, uint64(i)) {
			if got := checkContains(t, b, p); got != refused {
				t.Errorf("Contains(%.900s; %s) = %s", text(b), words(p[:]...), got)
			}
		}
	}
	for _, b := range []api.Brep{{}, built(drilled())} {
		for _, wrong := range sample.InvalidFractions() {
			for axis := range 3 {
				p := [3]api.Ratio(sample.Numbers("1/2 1/2 1/2"))
				p[axis] = wrong
				if got := checkContains(t, b, p); got != refused {
					t.Errorf("Contains(%.300s) = %s", words(p[:]...), got)
				}
			}
		}
	}
}

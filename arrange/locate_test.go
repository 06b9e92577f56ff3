package arrange_test

import (
	"slices"
	"strconv"
	"testing"

	"workpiece/api"
	"workpiece/arrange"
	"workpiece/sample"
)

// wantLocate returns the outcome of Locate.
func wantLocate(curves []api.Curve, cells []api.Cell, x, y api.Ratio) string {
	if !areValid(curves) {
		return refused
	}
	return sample.Calculated(api.ErrArrange, func() string {
		for _, c := range curves {
			if wantSide(c, x, y) == 0 {
				return refused
			}
		}
		for i, cell := range cells {
			isSame := true
			for _, c := range curves {
				if isSame {
					isSame = wantSide(c, cell.X, cell.Y) == wantSide(c, x, y)
				}
			}
			if isSame {
				return strconv.Itoa(i)
			}
		}
		return refused
	})
}

// checkLocate checks where a point is located, and returns the outcome.
func checkLocate(t *testing.T, curves []api.Curve, cells []api.Cell, x, y api.Ratio) string {
	t.Helper()
	got := indexOutcome(arrange.Locate(curves, cells, x, y))
	if want := wantLocate(curves, cells, x, y); got != want {
		t.Errorf("Locate(%.900s; %.900s; %.300v, %.300v) = %s instead of %s", curvesText(curves), cellsText(cells), x, y, got, want)
	}
	return got
}

// P14.1: points whose cells are known.
func TestLocateKnown(t *testing.T) {
	curves := sample.CurvesOf("circle 0 0 4; line -1 1 0")
	for _, c := range []struct{ x, y, want string }{
		{"0", "1", "4"}, {"1", "1/2", "7"}, {"-100", "0", "1"}, {"5", "0", "0"}, {"0", "0", refused}, {"0", "2", refused}, {"2", "0", refused}, {"1", "1", refused}, {"3", "3", refused},
	} {
		if got := checkLocate(t, curves, cellsOf(curves), number(c.x), number(c.y)); got != c.want {
			t.Errorf("Locate(%s, %s) = %s instead of %s", c.x, c.y, got, c.want)
		}
	}
}

// P14.1: points in all cells of curves, on curves, and beside them.
func TestLocate(t *testing.T) {
	t.Parallel()
	count := map[bool]int{}
	for n, curves := range lists(60, 5, 51) {
		cells := cellsOf(curves)
		places := points(20, few, uint64(n))
		for i, c := range cells {
			if i%7 == n%7 {
				places = append(places, [2]api.Ratio{c.X, c.Y})
			}
		}
		for _, p := range places {
			count[checkLocate(t, curves, cells, p[0], p[1]) == refused]++
			checkLocate(t, curves, nil, p[0], p[1])
		}
	}
	if count[true] < 150 || count[false] < 1000 {
		t.Error(count)
	}
}

// P14.1: any lists of cells: the first one is found, also among several, and none on a
// curve.
func TestLocateAny(t *testing.T) {
	t.Parallel()
	count := map[string]int{}
	for n, curves := range lists(300, 4, 52) {
		cells := anyCells(12, few, uint64(n))
		for _, p := range points(20, few, uint64(n)+9) {
			count[checkLocate(t, curves, cells, p[0], p[1])]++
		}
	}
	if slices.Min([]int{count["0"], count["1"], count["2"], count["3"], count["7"], count[refused]}) < 50 {
		t.Error(count)
	}
}

// P14.1: sides that are too large matter for the point, but of a cell only up to the first
// curve that separates both, and only up to the cell that is found.
func TestLocateLarge(t *testing.T) {
	t.Parallel()
	count := map[bool]int{}
	for n, curves := range largeLists(600, 3, 53) {
		list := largeNumbers(n, uint64(n))
		cells := anyCells(8, list, uint64(n))
		for _, p := range points(8, list, uint64(n)+9) {
			count[checkLocate(t, curves, cells, p[0], p[1]) == refused]++
		}
	}
	far := sample.Power(150)
	curves := sample.CurvesOf("line 1 0 2; circle 0 0 4")
	cell := func(x, y string) api.Cell { return api.Cell{X: number(x), Y: number(y)} }
	for i, c := range []struct {
		x, y  string
		cells []api.Cell
		want  string
	}{
		{"0", "0", []api.Cell{cell("1", "1"), cell("0", far)}, "0"}, {"0", "0", []api.Cell{cell("0", far), cell("1", "1")}, refused}, {"0", "0", []api.Cell{cell("5", far), cell("1", "1")}, "1"}, {"0", "0", []api.Cell{cell("5", far)}, refused},
		{"0", far, []api.Cell{cell("5", "0")}, refused}, {"0", far, []api.Cell{cell("5", "0"), cell("0", "5")}, refused}, {"2", far, nil, refused}, {"2", "0", []api.Cell{cell("2", "0")}, refused}, {"0", "5", []api.Cell{cell("1", "1"), cell("0", "9"), cell("0", "5")}, "1"},
		{"0", "0", []api.Cell{cell("2", "0"), cell("0", "2"), cell("0", "1")}, "2"},
	} {
		if got := checkLocate(t, curves, c.cells, number(c.x), number(c.y)); got != c.want {
			t.Errorf("%d: Locate = %s instead of %s", i, got, c.want)
		}
	}
	if count[true] < 500 || count[false] < 300 {
		t.Error(count)
	}
}

// P14.1: curves that are not valid, too many of them, points that are none, and sample
// points that are none.
func TestLocateInvalid(t *testing.T) {
	zero := number("0")
	cells := []api.Cell{{X: zero, Y: number("-90")}, {X: zero, Y: number("90")}}
	for _, curves := range invalidLists() {
		checkLocate(t, curves, cells, zero, number("91"))
	}
	curves := sample.CurvesOf("line 0 1 0; circle 0 0 4")
	for _, wrong := range sample.InvalidFractions() {
		for _, p := range [][2]api.Ratio{{wrong, zero}, {zero, wrong}, {wrong, wrong}} {
			if got := checkLocate(t, curves, cells, p[0], p[1]); got != refused {
				t.Errorf("Locate(%.300v) = %s", p, got)
			}
			// Without curves neither the point nor the cells matter.
			bad := []api.Cell{{X: p[0], Y: p[1]}}
			if got := checkLocate(t, nil, bad, p[0], p[1]); got != "0" {
				t.Errorf("Locate(%.300v) without curves = %s", p, got)
			}
			if got := checkLocate(t, curves, append(bad, cells...), zero, number("91")); got != refused {
				t.Errorf("Locate behind %.300v = %s", bad, got)
			}
			if got := checkLocate(t, curves, append(cells[:2:2], bad...), zero, number("91")); got != "1" {
				t.Errorf("Locate before %.300v = %s", bad, got)
			}
		}
	}
	if got := checkLocate(t, nil, nil, zero, zero); got != refused {
		t.Errorf("Locate without curves and cells = %s", got)
	}
	if got := checkLocate(t, nil, cells, zero, zero); got != "0" {
		t.Errorf("Locate without curves = %s", got)
	}
}

package arrange_test

import (
	"slices"
	"strconv"
	"strings"
	"testing"

	"workpiece/api"
	"workpiece/arrange"
	"workpiece/sample"
)

// anyCells returns count cells that need not be those of any curves. Their sample points
// have coordinates from list.
func anyCells(count int, list []api.Ratio, seed uint64) []api.Cell {
	var out []api.Cell
	random := sample.Bytes(2*count, seed)
	for i, p := range points(count, list, seed+1) {
		out = append(out, api.Cell{X: p[0], Y: p[1], Strip: int(random[2*i] % 2), Index: int(random[2*i+1])})
	}
	return out
}

// wantBorder returns the outcome of Border.
func wantBorder(curves []api.Curve, cells []api.Cell, i int) string {
	if !areValid(curves) || i < 0 || i >= len(cells)-1 || cells[i].Strip != cells[i+1].Strip {
		return refused
	}
	return sample.Calculated(api.ErrArrange, func() string {
		for k, c := range curves {
			if wantSide(c, cells[i].X, cells[i].Y) != wantSide(c, cells[i+1].X, cells[i+1].Y) {
				return strconv.Itoa(k)
			}
		}
		return refused
	})
}

// checkBorder checks a border, and returns the outcome.
func checkBorder(t *testing.T, curves []api.Curve, cells []api.Cell, i int) string {
	t.Helper()
	got := indexOutcome(arrange.Border(curves, cells, i))
	if want := wantBorder(curves, cells, i); got != want {
		t.Errorf("Border(%.900s; %.900s; %d) = %s instead of %s", curvesText(curves), cellsText(cells), i, got, want)
	}
	return got
}

// P14.1: the borders of cells whose curves are known.
func TestBorderKnown(t *testing.T) {
	curves := sample.CurvesOf("circle 0 0 4; line -1 1 0")
	for i, want := range strings.Fields("1 - 1 0 0 - 0 1 0 - 0 0 1 - 1 -") {
		if want == "-" {
			want = refused
		}
		if got := checkBorder(t, curves, cellsOf(curves), i); got != want {
			t.Errorf("Border(%d) = %s instead of %s", i, got, want)
		}
	}
	// Curves with the same points: the first one counts.
	twice := sample.CurvesOf("line 0 1 5; line 0 1 3; line 0 -1 -3; line 0 1 3")
	for i, want := range []string{"1", "0"} {
		if got := checkBorder(t, twice, cellsOf(twice), i); got != want {
			t.Errorf("Border(%d) = %s instead of %s", i, got, want)
		}
	}
}

// P14.1: the borders of all cells, and of what is no index.
func TestBorder(t *testing.T) {
	t.Parallel()
	count := map[string]int{}
	for _, curves := range lists(40, 5, 41) {
		cells := cellsOf(curves)
		for i := -2; i <= len(cells)+1; i++ {
			count[checkBorder(t, curves, cells, i)]++
		}
		for _, wrong := range []int{-1 << 63, 1<<63 - 1, 1 << 40, -1 << 40} {
			checkBorder(t, curves, cells, wrong)
		}
		checkBorder(t, curves, nil, 0)
		checkBorder(t, curves, cells[:1], 0)
		checkBorder(t, nil, cells, 0)
	}
	if slices.Min([]int{count["0"], count["1"], count["2"], count[refused]}) < 150 {
		t.Error(count)
	}
}

// P14.1: the borders of cells in any list, also on curves.
func TestBorderAny(t *testing.T) {
	t.Parallel()
	count := map[string]int{}
	for n, curves := range lists(300, 6, 42) {
		cells := anyCells(12, few, uint64(n))
		for i := range cells {
			count[checkBorder(t, curves, cells, i)]++
		}
	}
	if slices.Min([]int{count["0"], count["1"], count["2"], count[refused]}) < 100 {
		t.Error(count)
	}
}

// P14.1: sides that are too large matter only up to the first curve between two cells.
func TestBorderLarge(t *testing.T) {
	t.Parallel()
	count := map[bool]int{}
	for n, curves := range largeLists(600, 4, 43) {
		cells := anyCells(12, largeNumbers(n, uint64(n)), uint64(n)+1)
		for i := range cells {
			count[checkBorder(t, curves, cells, i) == refused]++
		}
	}
	far := sample.Power(150)
	curves := sample.CurvesOf("line 1 0 2; circle 0 0 4; line 0 1 3")
	cell := func(x, y string) api.Cell { return api.Cell{X: number(x), Y: number(y)} }
	for i, c := range []struct {
		cells []api.Cell
		want  string
	}{
		{[]api.Cell{cell("0", far), cell("3", far)}, "0"}, {[]api.Cell{cell("3", far), cell("0", "0")}, "0"}, {[]api.Cell{cell("0", far), cell("1", "0")}, refused}, {[]api.Cell{cell("1", "0"), cell("0", far)}, refused},
		{[]api.Cell{cell("5", "0"), cell("5", "4")}, "2"}, {[]api.Cell{cell("2", "0"), cell("3", "0")}, "0"}, {[]api.Cell{cell("2", "0"), cell("1", "0")}, "0"}, {[]api.Cell{cell("2", "0"), cell("2", "1")}, "1"}, {[]api.Cell{cell("5", "0"), cell("5", "3")}, "2"}, {[]api.Cell{cell("5", "0"), cell("6", "1")}, refused},
	} {
		if got := checkBorder(t, curves, c.cells, 0); got != c.want {
			t.Errorf("%d: Border = %s instead of %s", i, got, c.want)
		}
	}
	if count[true] < 500 || count[false] < 500 {
		t.Error(count)
	}
}

// P14.1: curves that are not valid, too many of them, and sample points that are none.
func TestBorderInvalid(t *testing.T) {
	cells := []api.Cell{{X: number("0"), Y: number("-90")}, {X: number("0"), Y: number("90")}}
	for _, curves := range invalidLists() {
		checkBorder(t, curves, cells, 0)
	}
	curves := sample.CurvesOf("line 0 1 0; circle 0 0 4")
	if got := checkBorder(t, curves, cells, 0); got != "0" {
		t.Errorf("Border = %s", got)
	}
	for _, wrong := range sample.InvalidFractions() {
		for at := range 4 {
			changed := slices.Clone(cells)
			*[]*api.Ratio{&changed[0].X, &changed[0].Y, &changed[1].X, &changed[1].Y}[at] = wrong
			if got := checkBorder(t, curves, changed, 0); got != refused {
				t.Errorf("Border(%.300v) = %s", changed, got)
			}
		}
	}
	for _, strip := range []int{1, -1, 1 << 62} {
		changed := slices.Clone(cells)
		changed[1].Strip = strip
		checkBorder(t, curves, changed, 0)
	}
	// The index of a cell does not matter.
	cells[0].Index, cells[1].Index = 7, -7
	if got := checkBorder(t, curves, cells, 0); got != "0" {
		t.Errorf("Border = %s", got)
	}
}

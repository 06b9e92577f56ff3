package arrange_test

import (
	"slices"
	"strconv"
	"strings"
	"testing"

	"workpiece/api"
	"workpiece/arrange"
	"workpiece/region"
	"workpiece/sample"
)

// P14.1: the examples of the chapter.
func TestExamples(t *testing.T) {
	curves := sample.CurvesOf("circle 0 0 4; line -1 1 0")
	events := eventsOutcome(arrange.Events(curves))
	position := placeOutcome(arrange.Position(curves, api.Event{One: 0, Two: 1, Which: 1}))
	if events != "0,0,0 0,1,0 0,1,1 0,0,1 " || position != placeOf("8; 0 1/2").text() {
		t.Errorf("Events = %s, Position = %s", events, position)
	}
	cells, err := arrange.Cells(curves)
	first, last := api.Cell{X: number("-3"), Y: number("-4")}, api.Cell{X: number("3"), Y: number("4"), Strip: 4, Index: 1}
	if err != api.OK || len(cells) != 16 || cells[0] != first || cells[15] != last || strips(cells) != "2 4 4 4 2" {
		t.Errorf("Cells = %s", cellsOutcome(cells, err))
	}
	r := api.Region{Curves: curves, Nodes: []api.RegionNode{sample.Leaf(0), sample.Leaf(1), sample.Join(api.RMinus, 0, 1)}}
	none, x, y, err := arrange.Empty(r)
	side, errSide := region.Side(curves[1], x, y)
	if none || err != api.OK || side != -1 || errSide != api.OK {
		t.Errorf("Empty = %t, %v, %v, %d", none, x, y, err)
	}
}

// strips returns a text of the numbers of cells in the strips.
func strips(cells []api.Cell) string {
	var counts []string
	for i, c := range cells {
		if i+1 == len(cells) || cells[i+1].Strip != c.Strip {
			counts = append(counts, strconv.Itoa(c.Index+1))
		}
	}
	return strings.Join(counts, " ")
}

// P14.1: cells whose sample points are known.
func TestCellsKnown(t *testing.T) {
	for _, c := range []struct{ curves, want string }{
		{"", "0.0 (0, 0)"},
		{"line 1 0 3", "0.0 (2, 0) 1.0 (4, 0)"}, {"line -1 0 -5/2", "0.0 (1, 0) 1.0 (4, 0)"}, {"line 0 1 3", "0.0 (0, 2) 0.1 (0, 4)"}, {"line 0 -1 5/2", "0.0 (0, -4) 0.1 (0, -1)"}, {"line 1 2 3", "0.0 (0, 0) 0.1 (0, 3)"},
		{"line 0 1 3; line 0 -1 -3", "0.0 (0, 2) 0.1 (0, 4)"}, {"line 1 0 3; line -1 0 -3", "0.0 (2, 0) 1.0 (4, 0)"},
		{"line 0 1 0; line 0 1 1", "0.0 (0, -1) 0.1 (0, 1/2) 0.2 (0, 2)"}, {"line 0 1 0; line 0 1 1/4", "0.0 (0, -1) 0.1 (0, 1/8) 0.2 (0, 2)"}, {"line 0 1 2/3; line 0 1 3/4", "0.0 (0, -1) 0.1 (0, 11/16) 0.2 (0, 2)"}, {"line 0 1 0; line 0 1 3", "0.0 (0, -1) 0.1 (0, 3/2) 0.2 (0, 4)"},
		// Where halves are, one half belongs to neither side, and the other one does.
		{"line 0 1 0; line 0 1 1/2; line 0 1 1", "0.0 (0, -1) 0.1 (0, 1/4) 0.2 (0, 3/4) 0.3 (0, 2)"},
		{"line 1 1 0; line 1 -1 0", "0.0 (-1, -2) 0.1 (-1, 0) 0.2 (-1, 2) 1.0 (1, -2) 1.1 (1, 0) 1.2 (1, 2)"},
		{"line 1 0 3; line 0 1 1; line 0 -1 0", "0.0 (2, -1) 0.1 (2, 1/2) 0.2 (2, 2) 1.0 (4, -1) 1.1 (4, 1/2) 1.2 (4, 2)"},
		{"circle 0 0 4", "0.0 (-3, 0) 1.0 (0, -3) 1.1 (0, 0) 1.2 (0, 3) 2.0 (3, 0)"}, {"circle 1/2 -3 4", "0.0 (-3, 0) 1.0 (1/2, -6) 1.1 (1/2, -3) 1.2 (1/2, 0) 2.0 (4, 0)"}, {"circle 0 0 2", "0.0 (-3, 0) 1.0 (0, -3) 1.1 (0, 0) 1.2 (0, 3) 2.0 (3, 0)"},
		// The radicand 4/9 is a square, but it is not enclosed as one: 1 is 1/3 and its root.
		{"circle 1/3 0 4/9; line 1 0 1", "0.0 (-2, 0) 1.0 (1/2, -2) 1.1 (1/2, 0) 1.2 (1/2, 2) 2.0 (3, 0)"}, {"line 1 0 1; circle 1/3 0 4/9", "0.0 (-2, 0) 1.0 (0, -2) 1.1 (0, 0) 1.2 (0, 2) 2.0 (2, 0)"},
		{"circle 0 0 4/9; line 1 0 2/3; line 1 0 0", "0.0 (-2, 0) 1.0 (-1/2, -2) 1.1 (-1/2, 0) 1.2 (-1/2, 2) 2.0 (1/2, -2) 2.1 (1/2, 0) 2.2 (1/2, 2) 3.0 (2, 0)"},
	} {
		if got := cellsOutcome(arrange.Cells(sample.CurvesOf(c.curves))); strings.TrimSpace(got) != c.want {
			t.Errorf("Cells(%s) = %s instead of %s", c.curves, got, c.want)
		}
	}
}

// checkCells checks the cells of curves, and returns the outcome.
func checkCells(t *testing.T, curves []api.Curve) string {
	t.Helper()
	got := cellsOutcome(arrange.Cells(curves))
	if !areValid(curves) {
		if got != refused {
			t.Errorf("Cells(%.300s) = %.300s", curvesText(curves), got)
		}
		return got
	}
	var sorted [][]place
	want := sample.Calculated(api.ErrArrange, func() string {
		cells, lists := wantCells(curves)
		sorted = lists
		return cellsText(cells)
	})
	always, never := true, false
	for _, list := range sorted {
		can, cannot := sortable(list)
		always, never = always && can, never || cannot
	}
	if got != want && (want == refused || got != refused || always) {
		t.Errorf("Cells(%s) = %s instead of %s", curvesText(curves), got, want)
	}
	if got == want && want != refused && never {
		t.Errorf("Cells(%s) = %s instead of %s", curvesText(curves), got, refused)
	}
	return got
}

// P14.1: the cells of curves that meet in all ways, and of random ones.
func TestCells(t *testing.T) {
	t.Parallel()
	most := 0
	for _, curves := range lists(90, 6, 31) {
		got := checkCells(t, curves)
		if got == refused {
			t.Errorf("Cells(%s) = %s", curvesText(curves), got)
		}
		most = max(most, strings.Count(got, "("))
	}
	if most < 80 {
		t.Errorf("at most %d cells", most)
	}
}

// P14.1: the cells of curves with large numbers.
func TestCellsLarge(t *testing.T) {
	t.Parallel()
	count := map[string]int{}
	for _, curves := range slices.Concat(largeLists(600, 3, 32), largePairs(200, 33)) {
		kinds := ""
		for _, c := range curves {
			kinds += strconv.Itoa(c.Kind)
		}
		got := checkCells(t, curves)
		count[strconv.Itoa(len(kinds))+" "+strconv.FormatBool(got == refused)]++
	}
	if count["1 true"] < 2 || slices.Min([]int{count["2 true"], count["3 true"], count["1 false"], count["2 false"], count["3 false"]}) < 50 {
		t.Errorf("the sizes and refusals: %v", count)
	}
}

// P14.1: ordinates so close to each other that many halvings lead between them, or too
// many.
func TestCellsClose(t *testing.T) {
	t.Parallel()
	count := map[bool]int{}
	for _, k := range []int{1, 5, 20, 40, 60, 80, 90, 95, 98, 99, 100, 101, 105, 120, 150, 199} {
		near := "1/" + sample.Power(k)
		for _, s := range []string{
			"line 0 1 0; line 0 1 " + near, "line 0 -1 1/3; line 0 -1 " + near, "line 1 0 0; line 1 0 " + near, "line -1 0 0; line -1 0 -" + near + "; line 0 1 1",
			"line 0 1 1; line 1 " + near + " 0", "line 0 1 1/7; circle 0 0 " + near, "circle 0 0 " + near + "; line 1 0 0", "circle 0 0 1; line 0 1 -" + near + "; line 1 0 0",
		} {
			count[checkCells(t, sample.CurvesOf(s)) == refused]++
		}
	}
	if count[true] < 20 || count[false] < 60 {
		t.Errorf("%d are too close, %d are not", count[true], count[false])
	}
}

// P14.1: numbers for which nothing but one comparison, enclosure or sum is too large.
func TestCellsLimits(t *testing.T) {
	nines := sample.Nines()
	for _, c := range []struct {
		curves    string
		isRefused bool
	}{
		{"line 1 0 " + nines, true}, {"line -1 0 -" + nines, true}, {"line 1 0 -" + nines, true}, {"line 1 0 " + nines[:199], false}, {"line 1 0 " + nines[:199] + "8", false},
		{"line 0 1 " + nines, true}, {"line 0 1 -" + nines, true}, {"line 0 1 " + nines[:199] + "8", false}, {"line 0 -1 " + nines[:199] + "8", false},
		{"line 1 0 10; line 1 " + sample.Power(198) + " 0", false}, {"line 1 0 10; line 1 " + sample.Power(199) + " 0", false}, {"line 1 0 1/10; line 1 " + sample.Power(199) + " 0", false}, {"line 1 0 1/10; line 1 0 0; line 1 " + sample.Power(199) + " 0", true},
		{"circle 0 0 " + sample.Power(179), false}, {"circle 0 0 " + sample.Power(180), true}, {"circle 0 0 1/" + sample.Power(150), false},
		{"circle 0 " + nines[:99] + " 4", false}, {"circle 0 " + sample.Power(150) + " 4", false}, {"circle " + sample.Power(99) + " 0 4", false}, {"circle " + sample.Power(150) + " 0 4", false},
	} {
		got := checkCells(t, sample.CurvesOf(c.curves))
		if (got == refused) != c.isRefused {
			t.Errorf("Cells(%s) = %s", c.curves, got)
		}
	}
}

// P14.1: curves that are not valid, too many of them, and as many as there can be.
func TestCellsInvalid(t *testing.T) {
	for _, curves := range invalidLists() {
		checkCells(t, curves)
	}
	most := sample.Curves(20, few, 34)
	cells, err := arrange.Cells(most)
	events, _ := arrange.Events(most)
	if err != api.OK || len(cells) == 0 || cells[len(cells)-1].Strip != len(events) {
		t.Errorf("20 curves: %d cells, %d", len(cells), err)
	}
	if got := cellsOutcome(arrange.Cells(append(most, most[0]))); got != refused {
		t.Errorf("21 curves: %.300s", got)
	}
}

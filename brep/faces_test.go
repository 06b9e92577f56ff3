package brep_test

import (
	"strconv"
	"strings"
	"testing"

	"workpiece/api"
	"workpiece/arrange"
	"workpiece/brep"
	"workpiece/sample"
)

// checkFaces checks Faces of b as the chapter defines it, and returns the outcome.
func checkFaces(t *testing.T, b api.Brep) string {
	t.Helper()
	got, want := facesOutcome(brep.Faces(b)), wantFacesOutcome(b)
	if got != want {
		t.Errorf("Faces(%.1500s) = %.1500s instead of %.1500s", text(b), got, want)
	}
	return got
}

// P16.1: faces of many representations, and of others that are no representations of
// solids.
func TestFaces(t *testing.T) {
	t.Parallel()
	count := map[bool]int{}
	list := representations(solids(40, 31))
	for _, b := range append(list, handmade(list, 250, 32)...) {
		count[checkFaces(t, b) == refused]++
	}
	if count[false] < 150 || count[true] < 50 {
		t.Error(count)
	}
}

// P16.1: what is too large for faces is refused.
func TestFacesLarge(t *testing.T) {
	t.Parallel()
	count := map[bool]int{}
	for _, b := range large(300, 33) {
		count[checkFaces(t, b) == refused]++
	}
	if count[false] < 50 || count[true] < 50 {
		t.Error(count)
	}
}

// P16.1: the faces of the example, of parts that touch each other, and of those with a
// vertical line that is beside the same cell more than once.
func TestFacesKnown(t *testing.T) {
	for i, c := range []struct{ s, want string }{
		{"", ""}, {"cut 0 1 disc 0 0 1", ""}, {"add 0 1 disc 0 0 1; cut 0 1 disc 0 0 1", ""},
		{"add 0 3 rectangle 0 0 4 4; cut 1 5 disc 2 2 1", "1, level 0, curve 0: [[0 4] [0 7] [0 8] [0 9] [0 12]]\n2, level 1, curve 0: [[0 8]]\n2, level 2, curve 0: [[1 4] [1 7] [1 9] [1 12]]\n3, level 0, curve 0: [[0 1] [1 1]]\n3, level 0, curve 1: [[0 4] [1 4]]\n3, level 0, curve 2: [[0 3] [0 6] [0 11] [1 3] [1 6] [1 11]]\n3, level 0, curve 3: [[0 4] [0 9] [0 12] [1 4] [1 9] [1 12]]\n3, level 0, curve 4: [[1 7] [1 8]]\n"},
		{"add 0 1 line 1 0 0", "1, level 0, curve 0: [[0 0]]\n2, level 1, curve 0: [[0 0]]\n3, level 0, curve 0: [[0 0]]\n"},
		// Only the first one of two lines with the same points has a wall.
		{"cut 0 1 line -1 0 0; add 0 1 line 1 0 0", "1, level 0, curve 0: [[0 0]]\n2, level 1, curve 0: [[0 0]]\n3, level 0, curve 0: [[0 0]]\n"}, {"cut 0 1 line 0 1 0; add 0 1 line 0 -1 0", "1, level 0, curve 0: [[0 1]]\n2, level 1, curve 0: [[0 1]]\n3, level 0, curve 0: [[0 0]]\n"},
		{"cut 0 1 line -1 -1 0; add 0 1 line 1 1 0", "1, level 0, curve 0: [[0 0]]\n2, level 1, curve 0: [[0 0]]\n3, level 0, curve 0: [[0 0]]\n"},
		// The cell on the left of the line is the same for three parts of the line.
		{"add 0 1 rectangle 0 0 2 4; cut 0 1 disc 4 2 1", "1, level 0, curve 0: [[0 4]]\n2, level 1, curve 0: [[0 4]]\n3, level 0, curve 0: [[0 1]]\n3, level 0, curve 1: [[0 4]]\n3, level 0, curve 2: [[0 3]]\n3, level 0, curve 3: [[0 4]]\n"},
		// From below, the first cells that are on the left of the line, and below, between or
		// above the others, are 0, 4 and 2.
		{"cut 0 1 line 1 -1 5; cut 0 1 line 1 1 5; add 0 1 line 1 0 10", "1, level 0, curve 0: [[0 0] [0 1] [0 2] [0 3] [0 4] [0 5]]\n2, level 1, curve 0: [[0 0] [0 1] [0 2] [0 3] [0 4] [0 5]]\n3, level 0, curve 2: [[0 0] [0 4] [0 2]]\n"},
		// Two circles with their centers at y = 0, where B is 0 although they are no lines.
		{"add 0 1 circle 0 0 2; cut 0 1 circle 1 0 1", "1, level 0, curve 0: [[0 2] [0 5] [0 7]]\n2, level 1, curve 0: [[0 2] [0 5] [0 7]]\n3, level 0, curve 0: [[0 1] [0 2] [0 4] [0 7]]\n3, level 0, curve 1: [[0 5] [0 6]]\n"},
	} {
		if got := checkFaces(t, built(sample.Solid(c.s))); got != c.want {
			t.Errorf("%d: Faces(%s) = %s instead of %s", i, c.s, got, c.want)
		}
	}
}

// P16.1: the curves between all cells are computed, whatever is inside, and the transposed
// curves even without vertical lines; the transposed cells, and where they are, only for
// vertical lines.
func TestFacesNeeded(t *testing.T) {
	nines := sample.Nines()
	cell := func(x, y string, strip int) api.Cell { return api.Cell{X: fraction(x), Y: fraction(y), Strip: strip} }
	levels := sample.Numbers("0 1")
	slab := func(inside ...bool) []api.Slab { return []api.Slab{{Inside: inside}} }
	for i, c := range []struct {
		curves string
		cells  []api.Cell
		want   string
	}{
		// Without levels nothing is inside, and yet something can be too large.
		{"", nil, "ok"}, {"", []api.Cell{cell("0", "0", 0)}, "ok"}, {"", []api.Cell{cell("0", "0", 0), cell("0", "0", 1)}, "ok"}, {"", []api.Cell{cell("0", "0", 0), cell("0", "1", 0)}, refused}, {"", []api.Cell{cell("0", "0", 0), cell("0", "0", 1), cell("0", "0", 0)}, "ok"}, {"", []api.Cell{{}, {Strip: 1}}, "ok"},
		{"circle 0 0 1", []api.Cell{cell("0", "0", 0), cell("0", "1/2", 0)}, refused}, {"circle 0 0 1", []api.Cell{cell("0", "0", 0), cell("0", "1", 0)}, "ok"}, {"circle 0 0 1", []api.Cell{cell("0", "0", 0), cell("0", nines, 0)}, refused}, {"circle 0 0 1", []api.Cell{cell("0", "0", 0), cell("0", nines, 1)}, "ok"}, {"circle 0 0 1", []api.Cell{cell("0", "0", 0), {X: fraction("7")}}, refused},
		{"circle 0 0 1; line 0 1 1", []api.Cell{cell("0", "0", 0), cell("0", "1/2", 0), cell("0", "3", 0)}, refused}, {"circle 0 0 1; line 0 1 1/3", []api.Cell{cell("0", "0", 0), cell("0", "1/2", 0), cell("0", "3", 0)}, "ok"},
		// C / d, and then A / d, of the transposed curve.
		{"line 1 1/3 " + nines, nil, refused}, {"line 1 1/3 " + nines[1:] + "; circle 0 0 1", nil, "ok"}, {"line 1 -1/3 -" + nines, nil, refused}, {"line 1 3 " + nines, nil, "ok"}, {"line 1 0 " + nines + "; line 0 1 " + nines, nil, refused}, {"line 0 1 " + nines + "; circle 0 0 " + nines, nil, "ok"}, {"line 1 1/" + sample.Power(199) + " 1; circle 0 0 1", nil, "ok"}, {"line 1 -" + nines + " -7", nil, "ok"}, {"line 1 1/2 5" + nines[1:], nil, refused}, {"line 1 2 1/4" + nines[1:], nil, "ok"}, {"line 1 3 1/4" + nines[1:], nil, refused}, {"line 1 " + nines[:101] + "/" + sample.Power(101) + " 0", nil, refused}, {"line 1 " + nines[:99] + "/" + sample.Power(99) + " 0", nil, "ok"},
		// The transposed cells, and where they are.
		{"line 1 0 " + nines, nil, refused}, {"line 0 1 " + nines, nil, "ok"}, {"line 1 0 2", nil, refused}, {"line 0 1 2", nil, "ok"}, {"line 1 0 2", []api.Cell{cell("0", "0", 0), cell("3", "0", 1)}, "ok"}, {"line 1 0 2", []api.Cell{cell("0", "0", 0), cell("1", "0", 1)}, refused}, {"line 1 0 2", []api.Cell{cell("4", "0", 0), cell("3", "0", 1)}, refused},
		{"line 1 0 2; circle 0 0 " + nines, []api.Cell{cell("0", "0", 0), cell("3", "0", 1)}, refused}, {"line 0 1 2; circle 0 0 " + nines, []api.Cell{cell("0", "0", 0), cell("3", "0", 1)}, "ok"},
		{"line 1 0 2; line 0 1 0", []api.Cell{cell("0", "1", 0), cell("3", "1", 1), cell("3", "-1", 2)}, refused}, {"line 1 0 2; line 0 1 0", []api.Cell{cell("0", "1", 0), cell("3", "1", 1), cell("3", "-1", 2), cell("0", "-7", 7)}, "ok"},
	} {
		b := api.Brep{Curves: sample.CurvesOf(c.curves), Cells: c.cells}
		for _, levels := range [][]api.Ratio{nil, levels[:1], levels} {
			b.Levels = levels
			if len(levels) > 1 {
				b.Slabs = slab(make([]bool, len(c.cells))...)
			}
			want := strings.Replace(c.want, "ok", "", 1)
			if got := checkFaces(t, b); got != want {
				t.Errorf("%d: Faces(%.900s) = %.300s instead of %.300s", i, text(b), got, want)
			}
		}
	}
}

// P16.1: there can be 20 curves.
func TestFacesLimits(t *testing.T) {
	t.Parallel()
	for _, kind := range []string{"line 1 0 ", "line 0 1 ", "line 1 1 ", "circle 0 0 "} {
		var curves []string
		for i := range 21 {
			curves = append(curves, kind+strconv.Itoa(i+1))
			if i < 18 {
				continue
			}
			b := api.Brep{Levels: few[:1], Curves: sample.CurvesOf(strings.Join(curves, ";"))}
			b.Cells = sample.Needed(arrange.Cells(b.Curves[:min(i+1, 20)]))
			want := map[bool]string{false: "", true: refused}[i == 20]
			if got := checkFaces(t, b); got != want {
				t.Errorf("%s: Faces of %d curves = %s", kind, i+1, got)
			}
			if got := brep.Closed(b); got != (i < 20) {
				t.Errorf("%s: Closed with %d curves = %t", kind, i+1, got)
			}
		}
	}
}

// P16.1: representations that are not well formed.
func TestFacesInvalid(t *testing.T) {
	for _, b := range malformed() {
		if got := checkFaces(t, b); got != refused {
			t.Errorf("Faces(%.900s) = %s", text(b), got)
		}
	}
}

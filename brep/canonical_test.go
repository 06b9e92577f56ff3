package brep_test

import (
	"strconv"
	"strings"
	"testing"

	"workpiece/api"
	"workpiece/brep"
	"workpiece/rational"
	"workpiece/sample"
)

// checkCanonical checks Canonical of b as the chapter defines it, and returns the outcome.
func checkCanonical(t *testing.T, b api.Brep) string {
	t.Helper()
	got, want := outcome(brep.Canonical(b)), wantCanonical(b)
	if got != want {
		t.Errorf("Canonical(%.1500s) = %.1500s instead of %.1500s", text(b), got, want)
	}
	return got
}

// P16.1: canonical representations for many representations, and for others that are no
// representations of solids.
func TestCanonical(t *testing.T) {
	t.Parallel()
	count := map[bool]int{}
	list := representations(solids(40, 51))
	for _, b := range append(list, handmade(list, 200, 52)...) {
		count[checkCanonical(t, b) == refused]++
	}
	if count[false] < 100 || count[true] < 50 {
		t.Error(count)
	}
}

// P16.1: what is too large for a canonical representation is refused.
func TestCanonicalLarge(t *testing.T) {
	t.Parallel()
	count := map[bool]int{}
	for _, b := range large(300, 53) {
		count[checkCanonical(t, b) == refused]++
	}
	if count[false] < 50 || count[true] < 50 {
		t.Error(count)
	}
}

// P16.1: the levels and curves of the example, and of solids with levels and curves that
// bound nothing, are the same twice, or have the same points.
func TestCanonicalKnown(t *testing.T) {
	for i, c := range []struct{ s, levels, curves string }{
		{"", "", ""}, {"cut 0 1 disc 0 0 1", "", ""}, {"add 0 1 disc 0 0 1; cut 0 1 disc 0 0 1", "", ""}, {"add 0 1 disc 0 0 1; cut 0 1 line 1 0 7", "", ""},
		{"add 0 3 rectangle 0 0 4 4; cut 1 5 disc 2 2 1", "0 1 3", "line 0 1 0; line 0 1 4; line 1 0 0; line 1 0 4; circle 2 2 1"},
		{"add 0 2 disc 0 0 1; add 1 3 disc 0 0 1", "0 3", "circle 0 0 1"}, {"add 0 2 disc 0 0 1; add 1 3 disc 9 9 1; cut 1 3 disc 9 9 1", "0 2", "circle 0 0 1"}, {"add 0 1 disc 0 0 1; cut 1 2 disc 0 0 1; add 2 3 disc 0 0 1", "0 1 2 3", "circle 0 0 1"},
		{"add 0 1 line -1 0 3", "0 1", "line 1 0 -3"}, {"add 0 1 line 1 0 3", "0 1", "line 1 0 3"}, {"add 0 1 line 0 -1 3", "0 1", "line 0 1 -3"}, {"add 0 1 line 0 1 -3", "0 1", "line 0 1 -3"}, {"add 0 1 line -1 1/2 3", "0 1", "line 1 -1/2 -3"}, {"add 0 1 line 1 -1/2 0", "0 1", "line 1 -1/2 0"}, {"add 0 1 circle -1 -2 3", "0 1", "circle -1 -2 3"},
		{"cut 0 1 line -1 0 -3; add 0 1 line 1 0 3", "0 1", "line 1 0 3"}, {"add 0 1 line 1 0 3; add 0 1 line -1 0 -3", "0 1", ""}, {"cut 0 1 line -1 -2 -3; add 0 1 line 1 2 3", "0 1", "line 1 2 3"},
		// In ascending order of Kind, A, B and C, as numbers.
		{"add 0 1 circle 0 0 1; add 0 1 circle -10 0 2; add 0 1 circle -9 0 3; add 0 1 line 1 1/2 -20", "0 1", "line 1 1/2 -20; circle -10 0 2; circle -9 0 3; circle 0 0 1"}, {"add 0 1 circle 9 10 1; add 0 1 circle 9 -10 1; add 0 1 circle 9 -9 1/2; add 0 1 circle 9 2 1", "0 1", "circle 9 -10 1; circle 9 -9 1/2; circle 9 2 1; circle 9 10 1"},
		{"add 0 1 circle 0 0 100; cut 0 1 circle 0 0 9; add 0 1 circle 0 0 1/2", "0 1", "circle 0 0 1/2; circle 0 0 9; circle 0 0 100"}, {"add 0 1 line 1 0 3; cut 0 1 line 1 0 -10; add 0 1 line 1 0 -200", "0 1", "line 1 0 -200; line 1 0 -10; line 1 0 3"}, {"add 0 1 line 1 10 0; add 0 1 line 1 9 0; add 0 1 line 1 -10 0", "0 1", "line 1 -10 0; line 1 10 0"},
		{"add 0 1 line 0 1 3; add 0 1 line 1 0 3; add 0 1 line 1 1 9", "0 1", "line 0 1 3; line 1 0 3; line 1 1 9"}, {"add 0 1 line -1 -10 0; add 1 2 line 1 9 7; add 2 3 line -1 10 0", "0 1 2 3", "line 1 -10 0; line 1 9 7; line 1 10 0"},
		{"add 0 1 rectangle 0 0 2 2; add 0 1 rectangle 2 0 4 2", "0 1", "line 0 1 0; line 0 1 2; line 1 0 0; line 1 0 4"}, {"add 0 1 rectangle 0 0 2 2; add 0 2 rectangle 2 0 4 2", "0 1 2", "line 0 1 0; line 0 1 2; line 1 0 0; line 1 0 2; line 1 0 4"}, {"add 0 1 rectangle 0 0 2 2; add 0 1 rectangle 0 2 2 4", "0 1", "line 0 1 0; line 0 1 4; line 1 0 0; line 1 0 2"},
	} {
		got := checkCanonical(t, built(sample.Solid(c.s)))
		want := "levels " + words(sample.Numbers(c.levels)...) + "\ncurves " + curvesText(sample.CurvesOf(c.curves)) + "\ncells "
		if !strings.HasPrefix(got, want) {
			t.Errorf("%d: Canonical = %s instead of %s", i, got, want)
		}
	}
}

// P16.1: what is inside in the cells of a canonical representation.
func TestCanonicalInside(t *testing.T) {
	for i, c := range []struct{ s, want string }{
		{"", "levels \ncurves \ncells 0.0 (0 0 ); "},
		{"add 0 1 line 1 0 3; add 0 1 line -1 0 -3", "levels 0 1 \ncurves \ncells 0.0 (0 0 ); \nslab x"},
		{"cut 0 2 circle 9 9 1; add 0 1 line -1 0 0; add 1/2 2 line 1 0 0", "levels 0 1/2 1 2 \ncurves 1: 1 0 0 ; \ncells 0.0 (-1 0 ); 1.0 (1 0 ); \nslab .x\nslab xx\nslab x."},
		{"add 0 1 line 0 -1 0; cut 0 1 circle 0 5 1; add 0 1 circle 0 5 1", "levels 0 1 \ncurves 1: 0 1 0 ; \ncells 0.0 (0 -1 ); 0.1 (0 1 ); \nslab .x"},
		{"cut 0 1 line 1 1 5; add 0 1 circle 0 0 4; cut 0 1 circle 0 0 1", "levels 0 1 \ncurves 2: 0 0 1 ; 2: 0 0 4 ; \ncells 0.0 (-3 0 ); 1.0 (-3/2 -3 ); 1.1 (-3/2 0 ); 1.2 (-3/2 3 ); 2.0 (0 -3 ); 2.1 (0 -3/2 ); 2.2 (0 0 ); 2.3 (0 3/2 ); 2.4 (0 3 ); 3.0 (3/2 -3 ); 3.1 (3/2 0 ); 3.2 (3/2 3 ); 4.0 (3 0 ); \nslab ..x..x.x..x.."},
		// Both parts of the band are beside the circle, but only the left one is inside.
		{"add 0 1 rectangle -9 -1 9 1; cut 0 1 disc 0 0 2; cut 0 1 rectangle 0 -1 9 1", "levels 0 1 \ncurves 1: 0 1 -1 ; 1: 0 1 1 ; 1: 1 0 -9 ; 2: 0 0 4 ; \ncells 0.0 (-10 -2 ); 0.1 (-10 0 ); 0.2 (-10 2 ); 1.0 (-11/2 -2 ); 1.1 (-11/2 0 ); 1.2 (-11/2 2 ); 2.0 (-7/4 -2 ); 2.1 (-7/4 -31/32 ); 2.2 (-7/4 0 ); 2.3 (-7/4 31/32 ); 2.4 (-7/4 2 ); 3.0 (0 -3 ); 3.1 (0 -3/2 ); 3.2 (0 0 ); 3.3 (0 3/2 ); 3.4 (0 3 ); 4.0 (7/4 -2 ); 4.1 (7/4 -31/32 ); 4.2 (7/4 0 ); 4.3 (7/4 31/32 ); 4.4 (7/4 2 ); 5.0 (3 -2 ); 5.1 (3 0 ); 5.2 (3 2 ); \nslab ....x..x.x.............."},
	} {
		if got := checkCanonical(t, built(sample.Solid(c.s))); got != c.want {
			t.Errorf("%d: Canonical = %s instead of %s", i, got, c.want)
		}
	}
}

// drawn returns the representation with the levels 0 and 1, the curves whose texts are the
// parts of one text, and the cells whose texts are the parts of the other one: coordinates,
// Strip, and x if the cell is inside.
func drawn(curves string, cells string) api.Brep {
	b := api.Brep{Levels: few[:2], Curves: sample.CurvesOf(curves), Slabs: make([]api.Slab, 1)}
	for part := range strings.SplitSeq(cells, ";") {
		w := strings.Fields(part)
		if len(w) == 0 {
			continue
		}
		strip, _ := strconv.Atoi(w[2])
		c := api.Cell{Strip: strip}
		c.X, _ = rational.Parse(w[0])
		c.Y, _ = rational.Parse(w[1])
		b.Cells = append(b.Cells, c)
		b.Slabs[0].Inside = append(b.Slabs[0].Inside, w[3] == "x")
	}
	return b
}

// P16.1: a cell lies in the cell of the result that the chapter finds by counting events
// and branches, also if it is on a curve; the first cell that does is decisive.
func TestCanonicalPlaces(t *testing.T) {
	disc := ";-3 0 0 .;0 -3 1 .;0 0 1 x;0 3 1 .;3 0 2 ."
	upper, lower := ";0 -1 0 .;0 1 0 x", ";0 -1 0 x;0 1 0 ."
	left := ";0 0 0 x;3 0 1 ."
	cut := ";-3 0 0 .;-3 2 0 .;0 -3 2 .;0 0 2 x;0 3/2 2 .;0 3 2 .;3 0 4 .;3 2 4 .;-15/8 -3 1 .;-15/8 0 1 .;-15/8 7/8 1 .;-15/8 3 1 .;15/8 -3 3 .;15/8 0 3 .;15/8 7/8 3 .;15/8 3 3 ."
	for i, c := range []struct{ curves, cells, want string }{
		{"circle 0 0 4", disc, "..x.."}, {"circle 0 0 4", "-3 7 9 x" + disc, "x.x.."}, {"circle 0 0 4", "-2 0 9 x" + disc, "x.x.."}, {"circle 0 0 4", "-2 7 9 x" + disc, "x.x.."}, {"circle 0 0 4", "-2 -7 9 x" + disc, "x.x.."}, {"circle 0 0 4", "-1 -7 9 x" + disc, ".xx.."}, {"circle 0 0 4", "1 -2 9 x" + disc, ".xx.."}, {"circle 0 0 4", "0 -2 9 x" + disc, ".xx.."}, {"circle 0 0 4", "6/5 -8/5 9 x" + disc, ".xx.."}, {"circle 0 0 4", "2 0 9 x" + disc, ".xx.."}, {"circle 0 0 4", "2 9 9 x" + disc, ".xx.."},
		{"circle 0 0 4", "-1999/1000 0 9 ." + disc, "....."}, {"circle 0 0 4", "1 0 9 x" + disc, "..x.."}, {"circle 0 0 4", "1 3/2 9 x" + disc, "..x.."}, {"circle 0 0 4", "1 2 9 x" + disc, "..xx."}, {"circle 0 0 4", "0 2 9 x" + disc, "..xx."}, {"circle 0 0 4", "6/5 8/5 9 x" + disc, "..xx."}, {"circle 0 0 4", "-1999/1000 3 9 x" + disc, "..xx."}, {"circle 0 0 4", "2001/1000 0 9 x" + disc, "..x.x"}, {"circle 0 0 4", "3 -7 9 x" + disc, "..x.x"}, {"circle 0 0 4", "3 7 9 x" + disc, "..x.x"}, {"circle 0 0 4", disc + ";3 7 9 x;0 5 8 x;-7 0 7 x", "..x.."},
		{"circle 0 0 2", "-7/5 0 9 x;-3/2 0 8 x;3/2 0 7 x;7/5 -1 6 x" + disc, "xxx.x"}, {"circle 1 3 2", "0 3 9 x;1 1 9 .;1 3 9 x;1 5 9 x;-1 3 8 x;5 3 7 .", "x.xx."},
		{"line 1 1 0", lower, "x."}, {"line 1 1 0", "5 -5 9 ." + lower, ".."}, {"line 1 1 0", "5 -5 9 x" + lower, "x."}, {"line 1 1 0", "5 -4 9 x" + lower, "xx"}, {"line 1 1 0", "5 -49/10 9 x" + lower, "xx"}, {"line -1 -1 0", "5 -5 9 x" + upper, "xx"}, {"line -1 -1 0", "5 -4 9 x;5 -6 8 ." + upper, ".x"}, {"line 1 -1/2 0", "5 10 9 x" + upper, "xx"}, {"line 1 -1/2 0", "5 11 9 x" + upper, ".x"}, {"line 0 1 0", "5 0 9 x" + upper, "xx"}, {"line 0 -1 0", "5 1/9 9 x" + upper, ".x"},
		{"line 1 0 2", left, "x."}, {"line 1 0 2", "2 7 9 ." + left, ".."}, {"line -1 0 -2", "2 7 9 x" + left, "x."}, {"line -1 0 -2", "3 7 9 x;0 0 0 .;3 0 1 .", ".x"}, {"line 1 0 2", "3 7 9 x;1 0 0 x;0 0 1 .", "x"}, {"line 1 0 2", left + ";3 0/0 9 x", "x."}, {"line 1 0 2", "3 0/0 9 x" + left, refused}, {"line 1 0 2", "0/0 0 9 x" + left, refused}, {"line 1 0 2", left + ";0/0 0 9 x", refused},
		{"circle 0 0 4; line 0 1 1", cut, ".......x........"},
		// A cell of the result in which none lies, and cells for which something is too
		// large, or that are not valid, even if none of them is needed.
		{"circle 0 0 4", strings.Replace(disc, ";3 0 2 .", "", 1), refused}, {"circle 0 0 4", strings.Replace(disc, "-3 0 0", "-1 0 0", 1), refused}, {"circle 0 0 4", disc + ";0 " + sample.Power(150) + " 9 .", refused}, {"circle 0 0 4", disc + ";0 0/0 9 .", refused}, {"circle 0 0 4", disc + ";0/0 0 9 .", refused}, {"line 1 1 0", lower + ";0 0/0 9 .", refused}, {"line 1 1/3 0", lower + ";" + sample.Nines() + " 0 9 .", refused},
		// Without curves no numbers are needed.
		{"", "0/0 0/0 0 x", "x"}, {"", "0/0 0/0 0 .", "none"}, {"", "0/0 0/0 0 x;0/0 0/0 1 .", "x"}, {"", "0/0 0/0 0 .;0/0 0/0 1 x", "."}, {"", "", refused}, {"circle 0 0 4", "", refused}, {"circle 0 0 4", "0/0 0/0 0 x", "x"}, {"line 1 1 0", "0/0 0/0 0 x", "x"},
	} {
		got := checkCanonical(t, drawn(c.curves, c.cells))
		fields, inside, found := strings.Cut(got, "\nslab ")
		if found {
			fields = inside
		} else if got != refused {
			fields = "none"
		}
		if fields != c.want {
			t.Errorf("%d: Canonical = %s instead of %s", i, got, c.want)
		}
	}
}

// P16.1: no cell is needed where there are no slabs, but one must lie in the only cell of
// the result.
func TestCanonicalEmpty(t *testing.T) {
	for i, c := range []struct {
		b    api.Brep
		fits bool
	}{
		{api.Brep{}, false}, {api.Brep{Levels: few[:1]}, false}, {api.Brep{Curves: sample.CurvesOf("line 1 1 0")}, false}, {api.Brep{Cells: make([]api.Cell, 1)}, true}, {api.Brep{Levels: few[:1], Cells: make([]api.Cell, 1)}, true}, {api.Brep{Levels: few[:2], Slabs: make([]api.Slab, 1)}, false}, {api.Brep{Curves: sample.CurvesOf("line 1 1 0"), Cells: make([]api.Cell, 1)}, true}, {api.Brep{Curves: sample.CurvesOf("line 1 0 0"), Cells: make([]api.Cell, 1)}, false},
	} {
		got, want := checkCanonical(t, c.b), refused
		if c.fits {
			want = "levels \ncurves \ncells 0.0 (0 0 ); "
		}
		if got != want {
			t.Errorf("%d: Canonical = %s", i, got)
		}
	}
}

// P16.1: representations that are not well formed.
func TestCanonicalInvalid(t *testing.T) {
	for _, b := range malformed() {
		if got := checkCanonical(t, b); got != refused {
			t.Errorf("Canonical(%.900s) = %s", text(b), got)
		}
	}
}

package solid_test

import (
	"fmt"
	"strings"
	"testing"

	"workpiece/api"
	"workpiece/sample"
	"workpiece/solid"
)

// checkEqual checks Equal of a and b as the chapter defines it, and Empty of a, and
// returns the outcome of Equal.
func checkEqual(t *testing.T, a, b api.Solid) string {
	t.Helper()
	got, want := decision(solid.Equal(a, b)), wantEqual(a, b)
	if got != want {
		t.Errorf("Equal(%.900s; %.900s) = %.900s instead of %.900s", text(a), text(b), got, want)
	}
	empty, wantEmpty := decision(solid.Empty(a)), wantEqual(a, api.Solid{})
	if empty != wantEmpty {
		t.Errorf("Empty(%.900s) = %.900s instead of %.900s", text(a), empty, wantEmpty)
	}
	return got
}

// P15.1: pairs of solids of few prisms, of which some are equal.
func TestEqual(t *testing.T) {
	t.Parallel()
	count := map[string]int{}
	list := append(shaped(16, 3, 41), sample.Solids(16, 2, sample.Shapes()[:3], heights[:3], 42)...)
	for i, a := range list {
		for k, b := range list {
			if (i+k)%4 == 0 || i > 15 && k > 15 {
				count[strings.Fields(checkEqual(t, a, b))[0]]++
			}
		}
	}
	if count["true"] < 30 || count["false"] < 100 {
		t.Error(count)
	}
}

// P15.1: solids with large numbers.
func TestEqualLarge(t *testing.T) {
	t.Parallel()
	count := map[string]int{}
	shapes := append(sample.Shapes()[:8], sample.Regions(4, sample.Fractions(40, 30, 43), 43)...)
	levels := append(sample.Fractions(12, 60, 44), heights...)
	list := sample.Solids(40, 2, shapes, levels, 45)
	for i, a := range list {
		b := list[(i*7+4)%len(list)]
		count[strings.Fields(checkEqual(t, a, b))[0]]++
		count[strings.Fields(checkEqual(t, a, a))[0]]++
	}
	if count["true"] < 20 || count["false"] < 10 || count["error"] < 5 {
		t.Error(count)
	}
}

// P15.1: the first slab for which sections are not equal decides; what is at levels only,
// or where nothing is in both, does not matter.
func TestEqualKnown(t *testing.T) {
	for i, c := range []struct{ a, b, want string }{
		{"", "", "true"}, {"", "cut 0 1 disc 0 0 1", "true"}, {"add 0 1 disc 0 0 1", "add 0 1 disc 0 0 1", "true"}, {"add 0 1 disc 0 0 1", "", "1/2"}, {"", "add 0 1 disc 0 0 1", "1/2"}, {"", "add 0 1 disc 0 0 1; cut 0 1 disc 0 0 1", "true"}, {"add 0 1 disc 0 0 1; cut 1/3 2/3 disc 0 0 1", "", "1/6"},
		{"add 0 3 rectangle 0 0 4 4", "add 0 3 rectangle 0 0 2 4; add 0 3 rectangle 2 0 4 4", "true"}, {"add 0 3 rectangle 0 0 4 4", "add 0 2 rectangle 0 0 4 4; add 2 3 rectangle 0 0 4 4", "true"}, {"add 0 3 rectangle 0 0 4 4", "add 0 2 rectangle 0 0 4 4; add 1 3 rectangle 0 0 4 4", "true"}, {"add 0 3 rectangle 0 0 4 4", "add 0 2 rectangle 0 0 4 4; add 5/2 3 rectangle 0 0 4 4", "9/4"},
		{"add 0 3 rectangle 0 0 4 4; cut 1 5 disc 2 2 1", "cut 1 5 disc 2 2 1; add 0 3 rectangle 0 0 4 4", "2"}, {"add 0 3 rectangle 0 0 4 4; cut 1 5 disc 9 9 1", "cut 1 5 disc 9 9 1; add 0 3 rectangle 0 0 4 4", "true"}, {"add 0 3 rectangle 0 0 4 4; cut 3 5 disc 2 2 1", "add 0 3 rectangle 0 0 4 4", "true"},
		{"add 0 1 disc 0 0 1; add 2 3 disc 0 0 1; add 4 5 disc 0 0 1", "add 0 1 disc 0 0 1; add 2 3 disc 0 0 2; add 4 5 disc 0 0 3", "5/2"}, {"add 4 5 disc 0 0 1; add 2 3 disc 0 0 1; add 0 1 disc 0 0 1", "add 4 5 disc 0 0 3; add 2 3 disc 0 0 2; add 0 1 disc 0 0 1", "5/2"}, {"add 0 3 disc 0 0 1", "add 1 4 disc 0 0 1", "1/2"}, {"add 0 4 disc 0 0 1", "add 0 3 disc 0 0 1", "7/2"}, {"add -7/3 1 disc 0 0 1", "add -2 1 disc 0 0 1", "-13/6"},
	} {
		got := checkEqual(t, sample.Solid(c.a), sample.Solid(c.b))
		if c.want == "true" {
			if got != decision(true, [3]api.Ratio{}, api.OK) {
				t.Errorf("%d: %s", i, got)
			}
		} else if want := fmt.Sprintf(" %v]", number(c.want)); !strings.HasPrefix(got, "false") || !strings.HasSuffix(got, want) {
			t.Errorf("%d: %s instead of %s", i, got, want)
		}
	}
}

// P15.1: the section of the first solid comes first. Its curves decide about the sample
// point: the rightmost point of this circle is not enclosed exactly, the line is.
func TestEqualOrder(t *testing.T) {
	a, b := sample.Solid("add 0 1 disc 1/3 0 2/3"), sample.Solid("add 0 1 line -1 0 -1; add 0 1 disc 1/3 0 2/3")
	for i, c := range []struct {
		a, b  api.Solid
		point string
	}{{a, b, "3 0 1/2"}, {b, a, "2 0 1/2"}} {
		if got, want := checkEqual(t, c.a, c.b), decision(false, [3]api.Ratio(sample.Numbers(c.point)), api.OK); got != want {
			t.Errorf("%d: %s instead of %s", i, got, want)
		}
	}
}

// P15.1: a slab that cannot be decided matters only if all slabs below it are equal.
func TestEqualTooLarge(t *testing.T) {
	lines := func(lo, hi, count int) string {
		var out []string
		for i := range count {
			out = append(out, fmt.Sprintf("add %d %d line 1 0 %d", lo, hi, i))
		}
		return strings.Join(out, "; ")
	}
	far := "disc 0 " + sample.Power(150) + " 1"
	for i, c := range []struct{ a, b, want string }{
		{lines(0, 1, 10), lines(0, 1, 10), "true"}, {lines(0, 1, 16), "add 0 1 line 1 0 15; add 0 1 line 0 1 3; add 0 1 line 0 1 4; add 0 1 line 0 1 5; add 0 1 line 0 1 6", "false"}, {lines(0, 1, 16), "add 0 1 line 1 0 15; add 0 1 line 0 1 3; add 0 1 line 0 1 4; add 0 1 line 0 1 5; add 0 1 line 0 1 6; add 0 1 line 0 1 7", "error"},
		{"add 0 1 " + far, "", "error"}, {"", "add 0 1 " + far, "error"}, {"add 0 1 " + far, "add 0 1 " + far, "error"}, {"add 0 1 " + far + "; cut 0 1 disc 0 0 1", "", "error"}, {"cut 0 1 " + far, "", "true"},
		{"add 0 1 " + far + "; add -1 0 disc 0 0 1", "", "false"}, {"add 0 1 " + far + "; add -1 0 disc 0 0 1", "add -1 0 disc 0 0 1", "error"}, {"add 0 1 " + far + "; add 1 2 disc 0 0 1", "", "error"}, {"add -1 0 disc 0 0 1; add 0 1 " + far, "add -1 0 disc 0 0 2", "false"},
	} {
		if got := checkEqual(t, sample.Solid(c.a), sample.Solid(c.b)); !strings.HasPrefix(got, c.want) {
			t.Errorf("%d: %s", i, got)
		}
	}
	// A section has more than 24 curves, above a difference or below it.
	plates := ""
	for i := range 7 {
		plates += fmt.Sprintf("; add 0 1 rectangle %d %d 3%d 4%d", i, i, i, i)
	}
	for i, c := range []struct{ a, want string }{{"add -1 0 disc 0 0 1" + plates, "false"}, {"add 1 2 disc 0 0 1" + plates, "error"}} {
		if got := checkEqual(t, sample.Solid(c.a), api.Solid{}); !strings.HasPrefix(got, c.want) {
			t.Errorf("%d: %s", i, got)
		}
	}
}

// P15.1: solids that are not valid.
func TestEqualInvalid(t *testing.T) {
	for _, s := range sample.InvalidSolids() {
		for _, other := range []api.Solid{{}, drilled(), s} {
			if one, two := checkEqual(t, s, other), checkEqual(t, other, s); one != refused || two != refused {
				t.Errorf("Equal with %.900s = %.300s, %.300s", text(s), one, two)
			}
		}
	}
}

package brep_test

import (
	"fmt"
	"slices"
	"strings"
	"testing"

	"workpiece/api"
	"workpiece/brep"
	"workpiece/sample"
)

// checkBuild checks Build of s as the chapter defines it, and returns the outcome.
func checkBuild(t *testing.T, s api.Solid) string {
	t.Helper()
	got, want := outcome(brep.Build(s)), wantBuild(s)
	if got != want {
		t.Errorf("Build(%.900s) = %.900s instead of %.900s", solidText(s), got, want)
	}
	return got
}

// P16.1: representations of many solids.
func TestBuild(t *testing.T) {
	t.Parallel()
	count := map[bool]int{}
	many := sample.Solids(20, 3, sample.Regions(25, few, 11)[20:], sample.Heights(), 11)
	for _, s := range slices.Concat(solids(60, 12), shaped(17, 16, 13)[10:12], many[4:]) {
		count[checkBuild(t, s) == refused]++
	}
	if count[false] < 100 || count[true] < 10 {
		t.Error(count)
	}
}

// P16.1: what is too large in curves, sample points or levels is refused.
func TestBuildLarge(t *testing.T) {
	t.Parallel()
	count := map[bool]int{}
	for i := range 120 {
		numbers := slices.Concat(few[:4], sample.Fractions(20, []int{20, 40, 70, 100}[i%4], uint64(i)))
		shapes := []api.Region{{}}
		for _, c := range sample.Curves(2, numbers, uint64(i)) {
			shapes = append(shapes, api.Region{Curves: []api.Curve{c}, Nodes: []api.RegionNode{sample.Leaf(0)}})
		}
		heights := sample.Fractions(6, []int{80, 120, 40, 150}[i%4], uint64(i))
		for _, s := range sample.Solids(3, 2, shapes, heights, uint64(i)) {
			count[checkBuild(t, s) == refused]++
		}
	}
	if count[false] < 50 || count[true] < 50 {
		t.Error(count)
	}
	nines := sample.Nines()
	for i, c := range []struct {
		s    string
		fits bool
	}{
		{"add 0 1 line 1 0 " + nines, false}, {"add 0 1 line 1 0 " + nines[1:], true}, {"add 0 1 line 0 1 " + nines, false}, {"add 0 1 circle 0 0 " + nines, false}, {"add 0 1 circle 0 0 " + nines[:180], true}, {"add 0 1 circle 0 " + sample.Power(100) + " 1", false},
		{"add 0 " + nines + " line 1 0 0", true}, {"add 1 " + nines + " line 1 0 0", false}, {"add 1 " + nines[1:] + " line 1 0 0", true}, {"cut 1 " + nines + " line 1 0 0; add 0 3 line 1 0 0", false},
	} {
		if got := checkBuild(t, sample.Solid(c.s)); (got != refused) != c.fits {
			t.Errorf("%d: Build(%.300s) = %.300s", i, c.s, got)
		}
	}
	// The middle matters even if the slab is empty, and nothing but levels is large.
	empty := api.Solid{Prisms: []api.Prism{{Lo: fraction("1"), Hi: fraction(nines)}}}
	if got := checkBuild(t, empty); got != refused {
		t.Errorf("Build of a large prism over nothing = %.300s", got)
	}
}

// P16.1: there can be 20 curves in all prisms, each counted once.
func TestBuildLimits(t *testing.T) {
	lines := func(count int) string {
		var out []string
		for i := range count {
			out = append(out, fmt.Sprintf("line 1 0 %d", i))
		}
		return strings.Join(out, "; ")
	}
	region := func(s string) api.Region { return sample.Region(s, sample.Leaf(0)) }
	for i, c := range []struct {
		regions []api.Region
		fits    bool
	}{
		{[]api.Region{region(lines(20))}, true}, {[]api.Region{region(lines(21))}, false}, {[]api.Region{region(lines(24))}, false}, {slices.Repeat([]api.Region{region(lines(20))}, 16), true}, {[]api.Region{region(lines(19)), region(lines(20)), region("line 1 0 7")}, true},
		{[]api.Region{region(lines(20)), region("line -1 0 0")}, false}, {[]api.Region{region(lines(19)), region("line -1 0 0")}, true}, {[]api.Region{region(lines(19)), region("line -1 0 0; line 1 0 3; circle 0 0 1")}, false},
	} {
		var s api.Solid
		for _, r := range c.regions {
			s.Prisms = append(s.Prisms, api.Prism{Region: r, Lo: fraction("0"), Hi: fraction("1")})
		}
		if got := checkBuild(t, s); (got != refused) != c.fits {
			t.Errorf("%d: Build = %.300s", i, got)
		}
	}
}

// P16.1: the representation of the example, and others.
func TestBuildKnown(t *testing.T) {
	b := built(drilled())
	if len(b.Levels) != 4 || len(b.Curves) != 5 || len(b.Cells) != 17 || len(b.Slabs) != 3 {
		t.Error(text(b))
	}
	for i, c := range []struct{ s, want string }{
		{"", "levels \ncurves \ncells 0.0 (0 0 ); "},
		{"add 0 2 line 1 0 0", "levels 0 2 \ncurves 1: 1 0 0 ; \ncells 0.0 (-1 0 ); 1.0 (1 0 ); \nslab x."},
		{"add 0 2 line 1 0 0; cut 1 3 line -1 0 0; cut 1 3 line 1 0 0", "levels 0 1 2 3 \ncurves 1: 1 0 0 ; 1: -1 0 0 ; \ncells 0.0 (-1 0 ); 1.0 (1 0 ); \nslab x.\nslab ..\nslab .."},
		{"add 0 1 disc 0 0 2; add 1 2 line 0 1 0", "levels 0 1 2 \ncurves 2: 0 0 4 ; 1: 0 1 0 ; \ncells 0.0 (-3 -1 ); 0.1 (-3 1 ); 1.0 (0 -3 ); 1.1 (0 -1 ); 1.2 (0 1 ); 1.3 (0 3 ); 2.0 (3 -1 ); 2.1 (3 1 ); \nslab ...xx...\nslab x.xx..x."},
	} {
		if got := checkBuild(t, sample.Solid(c.s)); got != c.want {
			t.Errorf("%d: Build = %s instead of %s", i, got, c.want)
		}
	}
}

// P16.1: solids that are not valid.
func TestBuildInvalid(t *testing.T) {
	for _, s := range sample.InvalidSolids() {
		if got := checkBuild(t, s); got != refused {
			t.Errorf("Build(%.900s) = %.900s", solidText(s), got)
		}
	}
}

// P16.1: representations are the same if all fields are equal, well formed or not.
func TestSame(t *testing.T) {
	t.Parallel()
	count := map[bool]int{}
	list := slices.Concat(representations(known()), malformed()[:40])
	list = append(list, handmade(list[:24], 60, 15)...)
	for _, a := range list {
		for _, b := range list {
			got, want := brep.Same(a, b), text(a) == text(b)
			if got != want {
				t.Errorf("Same(%.900s; %.900s) = %t", text(a), text(b), got)
			}
			count[got]++
		}
		if !brep.Same(a, clone(a)) {
			t.Errorf("%.900s is not the same as its copy", text(a))
		}
	}
	if count[true] < len(list) || count[false] < 10000 {
		t.Error(count)
	}
}

// P16.1: every field of every part matters for Same; nil and empty do not.
func TestSameFields(t *testing.T) {
	b := built(drilled())
	one := fraction("1/7")
	for i, change := range []func(b *api.Brep){
		func(b *api.Brep) { b.Levels[3] = one }, func(b *api.Brep) { b.Levels = b.Levels[:3] }, func(b *api.Brep) { b.Levels = append(b.Levels, one) }, func(b *api.Brep) { b.Levels = nil },
		func(b *api.Brep) { b.Levels[0], b.Levels[1] = b.Levels[1], b.Levels[0] },
		func(b *api.Brep) { b.Curves[4].Kind = api.KLine }, func(b *api.Brep) { b.Curves[0].A = one }, func(b *api.Brep) { b.Curves[1].B = one }, func(b *api.Brep) { b.Curves[2].C = one }, func(b *api.Brep) { b.Curves = b.Curves[1:] }, func(b *api.Brep) { b.Curves = nil },
		func(b *api.Brep) { b.Cells[0].X = one }, func(b *api.Brep) { b.Cells[16].Y = one }, func(b *api.Brep) { b.Cells[7].Strip = 9 }, func(b *api.Brep) { b.Cells[8].Index = 9 }, func(b *api.Brep) { b.Cells = b.Cells[:16] }, func(b *api.Brep) { b.Cells = nil },
		func(b *api.Brep) { b.Slabs[0].Inside[0] = true }, func(b *api.Brep) { b.Slabs[2].Inside[16] = true }, func(b *api.Brep) { b.Slabs[1].Inside = b.Slabs[1].Inside[:16] }, func(b *api.Brep) { b.Slabs[1].Inside = append(b.Slabs[1].Inside, false) },
		func(b *api.Brep) { b.Slabs = b.Slabs[:2] }, func(b *api.Brep) { b.Slabs = append(b.Slabs, api.Slab{}) }, func(b *api.Brep) { b.Slabs[0], b.Slabs[2] = b.Slabs[2], b.Slabs[0] }, func(b *api.Brep) { b.Slabs = nil },
	} {
		other := clone(b)
		change(&other)
		if brep.Same(b, other) || brep.Same(other, b) {
			t.Errorf("%d: Same(%s; %s)", i, text(b), text(other))
		}
	}
	empty := api.Brep{Levels: []api.Ratio{}, Curves: []api.Curve{}, Cells: []api.Cell{}, Slabs: []api.Slab{}}
	if !brep.Same(api.Brep{}, empty) || !brep.Same(empty, api.Brep{}) {
		t.Error("nil is not the same as empty")
	}
	if !brep.Same(api.Brep{Slabs: []api.Slab{{}}}, api.Brep{Slabs: []api.Slab{{Inside: []bool{}}}}) {
		t.Error("nil is not the same as empty in a slab")
	}
}

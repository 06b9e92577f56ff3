package cluster_test

import (
	"fmt"
	"slices"
	"testing"

	"workpiece/api"
	"workpiece/cluster"
	"workpiece/sample"
)

// example returns the sketch of the chapter's examples, with further constraints.
func example(further ...api.Constraint) api.Sketch {
	list := []api.Constraint{tie(api.CFix, 0), tie(api.CHorizontal, 0, 1), tie(api.CDistance, 0, 1), tie(api.CDistance, 0, 2), tie(api.CDistance, 1, 2), tie(api.CHorizontal, 1, 0)}
	return sample.Sketch(4, append(list, further...)...)
}

// check checks the results of all functions for the valid sketch s, and returns the
// construction.
func check(t *testing.T, s api.Sketch) api.Construction {
	t.Helper()
	c, err := cluster.Plan(s)
	if got, want := planOutcome(c, err), planOutcome(constructed(s, preferred), api.OK); got != want {
		t.Errorf("Plan(%+v) = %s instead of %s", s, got, want)
	}
	if got, want := freedomOutcome(cluster.Freedom(s)), fmt.Sprint(wantFreedom(s)); got != want {
		t.Errorf("Freedom(%+v) = %s instead of %s", s, got, want)
	}
	if got, want := fmt.Sprint(cluster.Components(s)), fmt.Sprint(wantComponents(s)); got != want {
		t.Errorf("Components(%+v) = %s instead of %s", s, got, want)
	}
	// P10.2.
	if !isConstruction(s, c) || !cluster.Check(s, c) {
		t.Errorf("Plan(%+v) = %v is not a construction", s, c)
	}
	return c
}

// P10.1: the examples of the chapter.
func TestExamples(t *testing.T) {
	s := example()
	c := check(t, s)
	if got := planOutcome(c, api.OK); got != "[{0 0 -1} {1 1 2} {2 3 4}] [5] [3]" {
		t.Errorf("Plan = %s", got)
	}
	if got := freedomOutcome(cluster.Freedom(s)); got != "2" {
		t.Errorf("Freedom = %s", got)
	}
	if got := freedomOutcome(cluster.Freedom(example(tie(api.CDistance, 2, 3)))); got != "1" {
		t.Errorf("Freedom with a distance = %s", got)
	}
	if got := fmt.Sprint(cluster.Components(s)); got != "[[0 1 2] [3]]" {
		t.Errorf("Components = %s", got)
	}
	exchanged := api.Construction{Steps: []api.Step{c.Steps[1], c.Steps[0], c.Steps[2]}, Checks: c.Checks, Unplaced: c.Unplaced}
	if cluster.Check(s, exchanged) {
		t.Error("Check with the first two steps exchanged")
	}
	if cluster.Check(s, api.Construction{Steps: c.Steps[:2], Checks: c.Checks, Unplaced: []int{2, 3}}) {
		t.Error("Check without the last step")
	}
}

// P10.1: what the constraints of each kind can do. The points 0 and 1 are placed, and
// the point 3 has nothing but the constraints given.
func TestRoles(t *testing.T) {
	for i, c := range []struct {
		list []api.Constraint
		want string
	}{
		{nil, "[]"},
		{[]api.Constraint{tie(api.CFix, 3)}, "[{3 2 -1}]"},
		{[]api.Constraint{tie(api.CFix, 3), tie(api.CFix, 3)}, "[{3 2 -1}]"},
		{[]api.Constraint{tie(api.CMidpoint, 3, 0, 1)}, "[{3 2 -1}]"},
		{[]api.Constraint{tie(api.CMidpoint, 0, 3, 1)}, "[{3 2 -1}]"},
		{[]api.Constraint{tie(api.CMidpoint, 1, 0, 3)}, "[{3 2 -1}]"},
		{[]api.Constraint{tie(api.CMidpoint, 3, 0, 2), tie(api.CMidpoint, 0, 2, 3)}, "[]"},
		{[]api.Constraint{tie(api.CDistance, 0, 3)}, "[]"},
		{[]api.Constraint{tie(api.CDistance, 0, 3), tie(api.CDistance, 3, 0)}, "[{3 2 3}]"},
		{[]api.Constraint{tie(api.CDistance, 2, 3), tie(api.CDistance, 3, 0)}, "[]"},
		{[]api.Constraint{tie(api.CHorizontal, 0, 3), tie(api.CHorizontal, 3, 1)}, "[]"},
		{[]api.Constraint{tie(api.CVertical, 0, 3), tie(api.CVertical, 3, 1)}, "[]"},
		{[]api.Constraint{tie(api.CHorizontal, 0, 3), tie(api.CVertical, 3, 1)}, "[{3 2 3}]"},
		{[]api.Constraint{tie(api.CVertical, 0, 3), tie(api.CHorizontal, 3, 1)}, "[{3 2 3}]"},
		{[]api.Constraint{tie(api.CHorizontal, 0, 3), tie(api.CHorizontal, 1, 3), tie(api.CVertical, 3, 1)}, "[{3 2 4}]"},
		{[]api.Constraint{tie(api.CHorizontal, 0, 3), tie(api.CHorizontal, 1, 3), tie(api.CVertical, 3, 1), tie(api.CVertical, 3, 0)}, "[{3 2 4}]"},
		{[]api.Constraint{tie(api.COnLine, 3, 0, 1), tie(api.COnLine, 0, 3, 1)}, "[{3 2 3}]"},
		{[]api.Constraint{tie(api.COnLine, 3, 0, 2), tie(api.COnLine, 0, 1, 3)}, "[]"},
		{[]api.Constraint{tie(api.CEqual, 3, 0, 1), tie(api.CEqual, 0, 3, 1)}, "[{3 2 3}]"},
		{[]api.Constraint{tie(api.CEqual, 0, 1, 3), tie(api.COnLine, 0, 1, 3)}, "[{3 2 3}]"},
		{[]api.Constraint{tie(api.CPerpendicular, 3, 0, 1, 0), tie(api.CPerpendicular, 0, 3, 0, 1)}, "[{3 2 3}]"},
		{[]api.Constraint{tie(api.CPerpendicular, 0, 1, 3, 0), tie(api.CPerpendicular, 1, 0, 0, 3)}, "[{3 2 3}]"},
		{[]api.Constraint{tie(api.CPerpendicular, 3, 0, 3, 1), tie(api.CDistance, 0, 3)}, "[]"},
		{[]api.Constraint{tie(api.CPerpendicular, 3, 0, 1, 3), tie(api.CDistance, 0, 3)}, "[]"},
		{[]api.Constraint{tie(api.CPerpendicular, 0, 3, 3, 1), tie(api.CDistance, 0, 3)}, "[]"},
		{[]api.Constraint{tie(api.CPerpendicular, 0, 3, 1, 3), tie(api.CDistance, 0, 3)}, "[]"},
		{[]api.Constraint{tie(api.CPerpendicular, 0, 3, 1, 2), tie(api.CDistance, 0, 3)}, "[]"},
		// What determines a point comes before two loci.
		{[]api.Constraint{tie(api.CDistance, 0, 3), tie(api.CDistance, 3, 0), tie(api.CFix, 3)}, "[{3 4 -1}]"},
		{[]api.Constraint{tie(api.CDistance, 0, 3), tie(api.CDistance, 3, 0), tie(api.CMidpoint, 1, 0, 3), tie(api.CFix, 3)}, "[{3 4 -1}]"},
		{[]api.Constraint{tie(api.CDistance, 0, 3), tie(api.CFix, 2), tie(api.CDistance, 3, 2), tie(api.CFix, 3)}, "[{2 3 -1} {3 5 -1}]"},
	} {
		s := sample.Sketch(4, append([]api.Constraint{tie(api.CFix, 0), tie(api.CFix, 1)}, c.list...)...)
		if got := fmt.Sprint(check(t, s).Steps[2:]); got != c.want {
			t.Errorf("%d: %s instead of %s", i, got, c.want)
		}
	}
}

// P10.1, P10.2: all pairs of constraints on few points, some of which are placed.
func TestPairs(t *testing.T) {
	for n := 1; n <= 4; n++ {
		all := sample.Constraints(n)
		for fixed := max(0, n-3); fixed < n; fixed++ {
			var list []api.Constraint
			for p := range fixed {
				list = append(list, tie(api.CFix, p))
			}
			check(t, sample.Sketch(n, list...))
			for i, one := range all {
				check(t, sample.Sketch(n, append(slices.Clip(list), one)...))
				for k, two := range all {
					if n < 4 || (i+k)%3 == 0 {
						check(t, sample.Sketch(n, append(slices.Clip(list), one, two)...))
					}
				}
			}
		}
	}
}

// P10.1, P10.2: sketches of all sizes.
func TestSketches(t *testing.T) {
	placed, checks, unplaced := map[int]int{}, 0, 0
	for _, s := range sketches(4000, 1) {
		c := check(t, s)
		placed[len(c.Steps)]++
		checks += len(c.Checks)
		unplaced += len(c.Unplaced)
	}
	for n := range api.MaxPoints + 1 {
		if placed[n] < 50 {
			t.Errorf("%d points are placed in only %d sketches", n, placed[n])
		}
	}
	if checks < 1000 || unplaced < 1000 {
		t.Errorf("%d checks, %d points left", checks, unplaced)
	}
}

// P10.1: sketches that are not valid.
func TestInvalid(t *testing.T) {
	for i, s := range sample.InvalidSketches() {
		c, err := cluster.Plan(s)
		if got := planOutcome(c, err); got != refused {
			t.Errorf("%d: Plan = %s", i, got)
		}
		if got := freedomOutcome(cluster.Freedom(s)); got != refused {
			t.Errorf("%d: Freedom = %s", i, got)
		}
		if got := cluster.Components(s); len(got) > 0 {
			t.Errorf("%d: Components = %v", i, got)
		}
		for n := range 9 {
			unplaced, _ := cluster.Plan(sample.Sketch(n))
			if cluster.Check(s, api.Construction{Unplaced: unplaced.Unplaced}) {
				t.Errorf("%d: Check with %d points left", i, n)
			}
		}
	}
}

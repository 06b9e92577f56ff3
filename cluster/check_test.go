package cluster_test

import (
	"slices"
	"testing"

	"workpiece/api"
	"workpiece/cluster"
	"workpiece/sample"
)

// checkCheck checks Check of the valid sketch s, and returns what it returns.
func checkCheck(t *testing.T, s api.Sketch, c api.Construction) bool {
	t.Helper()
	got := cluster.Check(s, c)
	if got != isConstruction(s, c) {
		t.Errorf("Check(%+v, %+v) = %t", s, c, got)
	}
	return got
}

// changedNumbers returns numbers that differ from n.
func changedNumbers(n int) []int {
	list := []int{n - 1, n + 1, -1, 0, n ^ 7, 16, 63, 64, 1 << 40, -1 << 63, 1<<63 - 1}
	return slices.DeleteFunc(list, func(k int) bool { return k == n })
}

// changedIndices returns lists that differ from a list of indices.
func changedIndices(list []int) [][]int {
	var out [][]int
	for i, n := range list {
		out = append(out, slices.Delete(slices.Clone(list), i, i+1), slices.Insert(slices.Clone(list), i, n))
		for _, other := range changedNumbers(n) {
			changed := slices.Clone(list)
			changed[i] = other
			out = append(out, changed)
		}
	}
	for _, n := range []int{-1, 0, 3, 7, 15, 1 << 40} {
		out = append(out, append(slices.Clone(list), n), slices.Insert(slices.Clone(list), 0, n))
	}
	if len(list) > 1 {
		reversed := slices.Clone(list)
		slices.Reverse(reversed)
		out = append(out, reversed, nil)
	}
	return out
}

// changedSteps returns lists that differ from a list of steps.
func changedSteps(list []api.Step) [][]api.Step {
	var out [][]api.Step
	for i, step := range list {
		out = append(out, slices.Delete(slices.Clone(list), i, i+1), slices.Insert(slices.Clone(list), i, step), append(slices.Clone(list), step))
		for k := range i {
			exchanged := slices.Clone(list)
			exchanged[i], exchanged[k] = exchanged[k], exchanged[i]
			out = append(out, exchanged)
		}
		for field, n := range []int{step.Point, step.First, step.Second} {
			for _, other := range changedNumbers(n) {
				changed := slices.Clone(list)
				*[]*int{&changed[i].Point, &changed[i].First, &changed[i].Second}[field] = other
				out = append(out, changed)
			}
		}
		turned := slices.Clone(list)
		turned[i].First, turned[i].Second = step.Second, step.First
		out = append(out, turned)
	}
	return append(out, append(slices.Clone(list), api.Step{}), append(slices.Clone(list), api.Step{First: -1, Second: -1}))
}

// P10.1: Check accepts constructions, also such as are not those of Plan, and nothing
// that differs from them in one place, unless it is another construction.
func TestCheck(t *testing.T) {
	others, accepted := 0, 0
	for i, s := range sketches(700, 2) {
		plan, _ := cluster.Plan(s)
		c := constructed(s, chosen(uint64(i)))
		if !checkCheck(t, s, c) {
			t.Errorf("Check(%+v, %+v) = false", s, c)
		}
		if !slices.Equal(c.Steps, plan.Steps) {
			others++
		}
		for _, steps := range changedSteps(c.Steps) {
			if checkCheck(t, s, api.Construction{Steps: steps, Checks: c.Checks, Unplaced: c.Unplaced}) {
				accepted++
			}
		}
		for _, checks := range changedIndices(c.Checks) {
			if checkCheck(t, s, api.Construction{Steps: c.Steps, Checks: checks, Unplaced: c.Unplaced}) {
				t.Errorf("Check(%+v, %+v) = true with the checks %v", s, c, checks)
			}
		}
		for _, unplaced := range changedIndices(c.Unplaced) {
			if checkCheck(t, s, api.Construction{Steps: c.Steps, Checks: c.Checks, Unplaced: unplaced}) {
				t.Errorf("Check(%+v, %+v) = true with %v left", s, c, unplaced)
			}
		}
	}
	if others < 100 || accepted < 100 {
		t.Errorf("only %d constructions are not those of Plan, and %d other ones are accepted", others, accepted)
	}
}

// P10.1: a construction may not end while a point can be placed, even if the checks
// and the points that are left are those of its steps.
func TestCheckShort(t *testing.T) {
	for i, s := range sketches(700, 3) {
		steps := constructed(s, chosen(uint64(i))).Steps
		for n := range steps {
			if short := completed(s, steps[:n]); checkCheck(t, s, short) {
				t.Errorf("Check(%+v, %+v) = true", s, short)
			}
		}
	}
}

// P10.1: a step may name no other constraints than the definition says, even if the
// checks are those of its steps.
func TestCheckStep(t *testing.T) {
	accepted, refused := 0, 0
	for i, s := range sketches(300, 10) {
		steps := constructed(s, chosen(uint64(i))).Steps
		for k := range steps {
			for first := -1; first <= len(s.Constraints); first++ {
				for second := -1; second <= len(s.Constraints); second++ {
					changed := slices.Clone(steps)
					changed[k].First, changed[k].Second = first, second
					if checkCheck(t, s, completed(s, changed)) {
						accepted++
					} else {
						refused++
					}
				}
			}
		}
	}
	if accepted < 1000 || refused < 10000 {
		t.Errorf("%d steps are accepted, %d refused", accepted, refused)
	}
}

// P10.1: nil and empty lists are the same, and long ones are refused.
func TestCheckLists(t *testing.T) {
	if !cluster.Check(sample.Sketch(1), api.Construction{Steps: []api.Step{}, Checks: []int{}, Unplaced: []int{0}}) {
		t.Error("Check with empty lists = false")
	}
	if !cluster.Check(sample.Sketch(1, tie(api.CFix, 0)), api.Construction{Steps: []api.Step{{Second: -1}}, Checks: []int{}, Unplaced: []int{}}) {
		t.Error("Check with no point left = false")
	}
	s := example()
	c, _ := cluster.Plan(s)
	for i, long := range []api.Construction{
		{Steps: slices.Repeat(c.Steps, 1<<18), Checks: c.Checks, Unplaced: c.Unplaced},
		{Steps: append(slices.Clone(c.Steps), make([]api.Step, 1<<18)...), Checks: c.Checks, Unplaced: c.Unplaced},
		{Steps: c.Steps, Checks: slices.Repeat(c.Checks, 1<<18), Unplaced: c.Unplaced},
		{Steps: c.Steps, Checks: c.Checks, Unplaced: slices.Repeat(c.Unplaced, 1<<18)},
	} {
		if cluster.Check(s, long) {
			t.Errorf("%d: Check of long lists = true", i)
		}
	}
}

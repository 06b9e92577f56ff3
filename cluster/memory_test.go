package cluster_test

import (
	"fmt"
	"slices"
	"testing"

	"workpiece/api"
	"workpiece/cluster"
	"workpiece/sample"
)

// outcomes returns a text of the results of all functions for s.
func outcomes(s api.Sketch, c api.Construction) string {
	return fmt.Sprint(planOutcome(cluster.Plan(s)), freedomOutcome(cluster.Freedom(s)), cluster.Check(s, c), cluster.Components(s))
}

// P10.1: no function modifies its arguments or their spare capacity, and nothing that
// is written into a result reaches them, or another result.
func TestMemory(t *testing.T) {
	mark := api.Constraint{Kind: 99}
	for i, s := range sketches(500, 4) {
		plan, _ := cluster.Plan(s)
		guarded := api.Sketch{Points: s.Points, Constraints: sample.Guarded(s.Constraints, mark)}
		c := api.Construction{Steps: sample.Guarded(plan.Steps, api.Step{Point: -7}), Checks: sample.Guarded(plan.Checks, -7), Unplaced: sample.Guarded(plan.Unplaced, -7)}
		want := outcomes(s, plan)
		if got := outcomes(guarded, c); got != want {
			t.Errorf("%d: %s instead of %s", i, got, want)
		}
		if !sample.Intact(guarded.Constraints, s.Constraints, mark) || !sample.Intact(c.Steps, plan.Steps, api.Step{Point: -7}) || !sample.Intact(c.Checks, plan.Checks, -7) || !sample.Intact(c.Unplaced, plan.Unplaced, -7) {
			t.Fatalf("%d: an argument is modified", i)
		}
		spoilResults(t, guarded)
		if got := outcomes(guarded, c); got != want {
			t.Errorf("%d: %s instead of %s after results were overwritten", i, got, want)
		}
	}
}

// spoilResults overwrites the results for s one by one, and checks that this does not
// reach those that are still to come.
func spoilResults(t *testing.T, s api.Sketch) {
	t.Helper()
	c, _ := cluster.Plan(s)
	unplaced := slices.Clone(c.Unplaced)
	sample.Spoil(c.Steps, api.Step{Point: -9})
	sample.Spoil(c.Checks, -9)
	if !slices.Equal(c.Unplaced, unplaced) {
		t.Errorf("Plan(%+v): the points that are left share memory with the checks", s)
	}
	sample.Spoil(c.Unplaced, -9)
	groups := cluster.Components(s)
	for i, group := range groups {
		if want := wantComponents(s)[i]; !slices.Equal(group, want) {
			t.Errorf("Components(%+v): the group %v is %v after others were overwritten", s, want, group)
		}
		sample.Spoil(group, -9)
	}
	sample.Spoil(groups, nil)
}

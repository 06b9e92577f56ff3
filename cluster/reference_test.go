package cluster_test

import (
	"fmt"
	"slices"

	"workpiece/api"
	"workpiece/sample"
)

// refused is the outcome of a call that returns ErrCluster.
var refused = sample.Failure(api.ErrCluster)

// planOutcome returns a text of what Plan returns.
func planOutcome(c api.Construction, err api.Errno) string {
	isZero := len(c.Steps) == 0 && len(c.Checks) == 0 && len(c.Unplaced) == 0
	return sample.Outcome(fmt.Sprint(c.Steps, c.Checks, c.Unplaced), isZero, err)
}

// freedomOutcome returns a text of what Freedom returns.
func freedomOutcome(n int, err api.Errno) string { return sample.Outcome(fmt.Sprint(n), n == 0, err) }

// A placing says which points are placed.
type placing map[int]bool

// hasAll reports whether all points that c uses are placed, apart from p.
func (placed placing) hasAll(c api.Constraint, p int) bool {
	for _, i := range sample.Indices(c) {
		if i != p && !placed[i] {
			return false
		}
	}
	return true
}

// determines reports whether c determines p, by the definition of the chapter.
func (placed placing) determines(c api.Constraint, p int) bool {
	return c.Kind == 1 && c.P == p || c.Kind == 7 && slices.Contains(sample.Indices(c), p) && placed.hasAll(c, p)
}

// isLocus reports whether c is a locus of p, by the definition of the chapter.
func (placed placing) isLocus(c api.Constraint, p int) bool {
	others := slices.DeleteFunc(sample.Indices(c), func(i int) bool { return i == p })
	if len(others) == len(sample.Indices(c)) || !placed.hasAll(c, p) {
		return false
	}
	return slices.Contains([]int{2, 3, 4, 5, 8}, c.Kind) || c.Kind == 6 && len(others) == 3
}

// accepts reports whether a point of s can be placed by step, by the definition of
// the chapter.
func (placed placing) accepts(s api.Sketch, step api.Step) bool {
	p, first, second := step.Point, step.First, step.Second
	if p < 0 || p >= s.Points || placed[p] || first < 0 || first >= len(s.Constraints) || second < -1 || second >= len(s.Constraints) {
		return false
	}
	one := s.Constraints[first]
	if second == -1 {
		return placed.determines(one, p)
	}
	two := s.Constraints[second]
	parallel := one.Kind == 3 && two.Kind == 3 || one.Kind == 4 && two.Kind == 4
	return placed.isLocus(one, p) && placed.isLocus(two, p) && !parallel && first < second
}

// steps returns all steps that can place a point of s, in ascending order of their
// points, of First, and of Second.
func (placed placing) steps(s api.Sketch) []api.Step {
	var out []api.Step
	for p := range s.Points {
		for first := range s.Constraints {
			for second := -1; second < len(s.Constraints); second++ {
				if step := (api.Step{Point: p, First: first, Second: second}); placed.accepts(s, step) {
					out = append(out, step)
				}
			}
		}
	}
	return out
}

// preferred returns the step of Plan among all that are possible.
func preferred(all []api.Step) api.Step {
	for _, step := range all {
		if step.Point == all[0].Point && step.Second == -1 {
			return step
		}
	}
	return all[0]
}

// constructed returns a construction of s. Its steps are chosen from all that are
// possible each time.
func constructed(s api.Sketch, choose func(all []api.Step) api.Step) api.Construction {
	var steps []api.Step
	placed := placing{}
	for all := placed.steps(s); len(all) > 0; all = placed.steps(s) {
		steps = append(steps, choose(all))
		placed[steps[len(steps)-1].Point] = true
	}
	return completed(s, steps)
}

// completed returns the construction of s with the given steps, if that is one.
func completed(s api.Sketch, steps []api.Step) api.Construction {
	c := api.Construction{Steps: steps}
	for i := range s.Constraints {
		if isCheck(s, c, i) {
			c.Checks = append(c.Checks, i)
		}
	}
	for p := range s.Points {
		if !slices.ContainsFunc(steps, func(step api.Step) bool { return step.Point == p }) {
			c.Unplaced = append(c.Unplaced, p)
		}
	}
	return c
}

// isCheck reports whether the constraint i is to be checked after the steps of c.
func isCheck(s api.Sketch, c api.Construction, i int) bool {
	placed := placing{}
	for _, step := range c.Steps {
		placed[step.Point] = true
		if step.First == i || step.Second == i {
			return false
		}
	}
	return placed.hasAll(s.Constraints[i], -1)
}

// isConstruction reports whether c is a construction of the valid sketch s, by the
// definition of the chapter.
func isConstruction(s api.Sketch, c api.Construction) bool {
	placed := placing{}
	for _, step := range c.Steps {
		if !placed.accepts(s, step) {
			return false
		}
		placed[step.Point] = true
	}
	unplaced, checks := 0, 0
	for p := range s.Points {
		if !placed[p] {
			if unplaced >= len(c.Unplaced) || c.Unplaced[unplaced] != p {
				return false
			}
			unplaced++
		}
	}
	for i := range s.Constraints {
		if isCheck(s, c, i) {
			if checks >= len(c.Checks) || c.Checks[checks] != i {
				return false
			}
			checks++
		}
	}
	return unplaced == len(c.Unplaced) && checks == len(c.Checks) && len(placed.steps(s)) == 0
}

// wantFreedom returns what Freedom returns for a valid sketch.
func wantFreedom(s api.Sketch) int {
	unplaced := constructed(s, preferred).Unplaced
	isUnplaced := func(i int) bool { return slices.Contains(unplaced, i) }
	n := 2 * len(unplaced)
	for _, c := range s.Constraints {
		if slices.ContainsFunc(sample.Indices(c), isUnplaced) {
			n--
			if c.Kind == 1 || c.Kind == 7 {
				n--
			}
		}
	}
	return max(0, n)
}

// wantComponents returns what Components returns for a valid sketch: all points have
// a number each, and the points of each constraint get the smallest of theirs.
func wantComponents(s api.Sketch) [][]int {
	var number []int
	for p := range s.Points {
		number = append(number, p)
	}
	for range s.Points {
		for _, c := range s.Constraints {
			for _, i := range sample.Indices(c) {
				for _, k := range sample.Indices(c) {
					number[i] = min(number[i], number[k])
				}
			}
		}
	}
	groups := make([][]int, s.Points)
	for p, n := range number {
		groups[n] = append(groups[n], p)
	}
	return slices.DeleteFunc(groups, func(g []int) bool { return len(g) == 0 })
}

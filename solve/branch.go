package solve

import (
	"slices"

	"workpiece/api"
	"workpiece/cluster"
	"workpiece/sketch"
	"workpiece/tower"
)

// A branch is one of the ways to place the points of a sketch: their coordinates,
// and the field of these. A point that is not placed yet is at the origin.
type branch struct {
	field
	points []point
}

// solutions returns the solutions of all branches of s.
func solutions(s api.Sketch) []api.Solution {
	plan := must(cluster.Plan(s))
	refuseIf(len(plan.Unplaced) > 0)
	origin := point{number{zero}, number{zero}}
	branches := []branch{{points: slices.Repeat([]point{origin}, s.Points)}}
	for _, step := range plan.Steps {
		var next []branch
		for _, b := range branches {
			next = append(next, b.after(step, s.Constraints)...)
		}
		refuseIf(len(next) > api.MaxBranches)
		branches = next
	}
	var out []api.Solution
	for _, b := range branches {
		if x := b.solution(); allHold(s.Constraints, x) {
			out = append(out, x)
		}
	}
	return out
}

// allHold reports whether the constraints hold for x. All of them are evaluated,
// since each may be too large.
func allHold(constraints []api.Constraint, x api.Solution) bool {
	all := true
	for _, c := range constraints {
		all = must(sketch.Holds(c, x.Tower, x.Points)) && all
	}
	return all
}

// solution returns the points of b, in new memory.
func (b branch) solution() api.Solution {
	var out api.Solution
	for _, d := range b.Radicands {
		out.Tower.Radicands = append(out.Tower.Radicands, slices.Clone(d))
	}
	for _, p := range b.points {
		out.Points = append(out.Points, [2][]api.Ratio{slices.Clone(p.x), slices.Clone(p.y)})
	}
	return out
}

// after returns the branches that the step makes of b: one for each position of its
// point.
func (b branch) after(step api.Step, constraints []api.Constraint) []branch {
	found := b.positions(step, constraints)
	before := b.in(found.field)
	var out []branch
	for _, p := range found.points {
		points := slices.Clone(before)
		points[step.Point] = p
		out = append(out, branch{found.field, points})
	}
	return out
}

// in returns the points of b with coordinates in f, which is the field of b or
// extends it.
func (b branch) in(f field) []point {
	if tower.Level(f.Tower) == tower.Level(b.Tower) {
		return b.points
	}
	var out []point
	for _, p := range b.points {
		out = append(out, point{f.embedded(p.x), f.embedded(p.y)})
	}
	return out
}

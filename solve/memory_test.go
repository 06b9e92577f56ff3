package solve_test

import (
	"testing"

	"workpiece/api"
	"workpiece/sample"
	"workpiece/solve"
)

// marks are what stands where nothing is to be written to.
var (
	markRatio      = api.Ratio{Num: "marker"}
	markConstraint = api.Constraint{Kind: 99}
)

// guarded returns a copy of x with spare capacity everywhere.
func guarded(x api.Solution) api.Solution {
	out := api.Solution{Tower: api.Tower{Radicands: sample.Guarded(x.Tower.Radicands, nil)}, Points: sample.Guarded(x.Points, [2][]api.Ratio{})}
	for i, d := range x.Tower.Radicands {
		out.Tower.Radicands[i] = sample.Guarded(d, markRatio)
	}
	for i, p := range x.Points {
		out.Points[i] = [2][]api.Ratio{sample.Guarded(p[0], markRatio), sample.Guarded(p[1], markRatio)}
	}
	return out
}

// isIntact reports whether the guarded solution is still a copy of x.
func isIntact(guarded api.Solution, x api.Solution) bool {
	ok := len(guarded.Tower.Radicands) == len(x.Tower.Radicands) && len(guarded.Points) == len(x.Points)
	for i, d := range guarded.Tower.Radicands[:cap(guarded.Tower.Radicands)] {
		if i < len(x.Tower.Radicands) {
			ok = ok && sample.Intact(d, x.Tower.Radicands[i], markRatio)
		} else {
			ok = ok && d == nil
		}
	}
	for i, p := range guarded.Points[:cap(guarded.Points)] {
		for axis := range p {
			if i < len(x.Points) {
				ok = ok && sample.Intact(p[axis], x.Points[i][axis], markRatio)
			} else {
				ok = ok && p[axis] == nil
			}
		}
	}
	return ok
}

// elements returns all lists of fractions in the solutions.
func elements(list []api.Solution) [][]api.Ratio {
	var out [][]api.Ratio
	for _, x := range list {
		out = append(out, x.Tower.Radicands...)
		for _, p := range x.Points {
			out = append(out, p[:]...)
		}
	}
	return out
}

// P11.1: Solve does not modify its argument or its spare capacity, and no two parts of
// its result share memory, with each other, with the argument, or with later results.
func TestSolveMemory(t *testing.T) {
	t.Parallel()
	several := 0
	for _, s := range sketches(200, 41) {
		tight := api.Sketch{Points: s.Points, Constraints: sample.Guarded(s.Constraints, markConstraint)}
		list, err := solve.Solve(tight)
		want := solveOutcome(list, err)
		if len(list) > 1 {
			several++
		}
		var texts []string
		for _, a := range elements(list) {
			texts = append(texts, text(a))
		}
		for i, a := range elements(list) {
			if got := text(a); got != texts[i] {
				t.Fatalf("%s of the solutions of %+v is %s after others were overwritten", texts[i], s, got)
			}
			sample.Spoil(a, markRatio)
		}
		for i, x := range list {
			sample.Spoil(x.Tower.Radicands, nil)
			sample.Spoil(x.Points, [2][]api.Ratio{})
			for _, y := range list[i+1:] {
				if y.Points[0][0] == nil || len(y.Tower.Radicands) > 0 && y.Tower.Radicands[0] == nil {
					t.Fatalf("solutions of %+v share memory", s)
				}
			}
		}
		sample.Spoil(list, api.Solution{})
		if got := solveOutcome(solve.Solve(tight)); got != want {
			t.Errorf("Solve(%+v) = %s, and then %s", s, want, got)
		}
		if !sample.Intact(tight.Constraints, s.Constraints, markConstraint) {
			t.Fatalf("the sketch %+v is modified", s)
		}
	}
	if several < 50 {
		t.Errorf("only %d sketches have several solutions", several)
	}
}

// P11.1: nor do Check and Round modify anything.
func TestRoundMemory(t *testing.T) {
	for _, s := range sketches(100, 42) {
		list, _ := solve.Solve(s)
		for _, x := range list {
			tight := guarded(x)
			sketch := api.Sketch{Points: s.Points, Constraints: sample.Guarded(s.Constraints, markConstraint)}
			if !solve.Check(sketch, tight) {
				t.Errorf("Check(%+v, %s) = false", s, solutionText(x))
			}
			rounded, err := solve.Round(tight, 5)
			want := roundOutcome(rounded, err)
			sample.Spoil(rounded, [2]api.Ratio{})
			if got := roundOutcome(solve.Round(tight, 5)); got != want {
				t.Errorf("Round(%s, 5) = %s, and then %s", solutionText(x), want, got)
			}
			if !isIntact(tight, x) || !sample.Intact(sketch.Constraints, s.Constraints, markConstraint) {
				t.Fatalf("an argument is modified: %s", solutionText(x))
			}
		}
	}
}

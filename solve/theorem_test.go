package solve_test

import (
	"slices"
	"testing"

	"workpiece/api"
	"workpiece/cluster"
	"workpiece/rational"
	"workpiece/sample"
	"workpiece/sketch"
	"workpiece/solve"
	"workpiece/tower"
)

// sketches returns sketches of all sizes that have solutions in towers of all levels.
func sketches(count int, seed uint64) []api.Sketch {
	out := append(sample.Constructions(count, seed), frameworks(count/10, seed)...)
	for _, f := range sample.Figures(count/2, seed) {
		out = append(out, f.Sketch)
	}
	return out
}

// P11.2: Check accepts every solution.
func TestSoundness(t *testing.T) {
	t.Parallel()
	accepted := 0
	for _, s := range sketches(400, 11) {
		list, _ := solve.Solve(s)
		for _, x := range list {
			accepted++
			if !solve.Check(s, x) {
				t.Errorf("Check(%+v, %s) = false", s, solutionText(x))
			}
		}
	}
	if accepted < 700 {
		t.Errorf("only %d solutions", accepted)
	}
}

// isAt reports whether the points of x are exactly in the places.
func isAt(t *testing.T, x api.Solution, places [][2]api.Ratio) bool {
	t.Helper()
	for p, place := range places {
		for axis, r := range place {
			exact, _ := tower.FromRatio(x.Tower, r)
			order, err := tower.Compare(x.Tower, x.Points[p][axis], exact)
			if err != api.OK {
				t.Fatalf("Compare(%v, %s, %s): %d", x.Tower, text(x.Points[p][axis]), text(exact), err)
			}
			if order != 0 {
				return false
			}
		}
	}
	return true
}

// P11.3: if all constraints hold for some points with rational coordinates, one of the
// solutions is that.
func TestCompleteness(t *testing.T) {
	t.Parallel()
	solved, several, further := 0, 0, 0
	for i, f := range sample.Figures(2500, 12) {
		for k := range i % 3 {
			if c, ok := sample.Fitted(sample.Constraint(f.Points, uint64(i*3+k)), f.Places); ok && len(f.Constraints) < api.MaxConstraints {
				f.Constraints = append(f.Constraints, c)
				further++
			}
		}
		list, err := solve.Solve(f.Sketch)
		if err != api.OK {
			continue
		}
		solved++
		if len(list) > 1 {
			several++
		}
		if !slices.ContainsFunc(list, func(x api.Solution) bool { return isAt(t, x, f.Places) }) {
			t.Errorf("%v is not among the %d solutions of %+v", f.Places, len(list), f.Sketch)
		}
	}
	if solved < 1500 || several < 500 || further < 300 {
		t.Errorf("only %d sketches are solved, %d of them with several solutions, %d further constraints", solved, several, further)
	}
}

// P11.4: solutions are different, and in the order of the points, in the order of the
// steps.
func TestOrder(t *testing.T) {
	t.Parallel()
	pairs, byX, byY, levels := 0, 0, 0, map[int]int{}
	for _, s := range sketches(400, 13) {
		list, _ := solve.Solve(s)
		plan, _ := cluster.Plan(s)
		views := viewsOf(t, list)
		for i, v := range views {
			levels[len(v.Tower.Radicands)]++
			for _, w := range views[:i] {
				pairs++
				first := slices.IndexFunc(plan.Steps, func(step api.Step) bool { return v.order(w, step.Point) != 0 })
				if first < 0 {
					t.Fatalf("%s and %s are the same solution of %+v", solutionText(v.Solution), solutionText(w.Solution), s)
				}
				p := plan.Steps[first].Point
				if v.order(w, p) < 0 {
					t.Errorf("%s comes after %s among the solutions of %+v", solutionText(v.Solution), solutionText(w.Solution), s)
				}
				if rational.Compare(w.at[p][0].Hi, v.at[p][0].Lo) < 0 {
					byX++
				} else {
					byY++
				}
			}
		}
	}
	if pairs < 1500 || byX < 800 || byY < 300 {
		t.Errorf("only %d pairs, %d with different x, %d with different y", pairs, byX, byY)
	}
	for level := range api.MaxLevel + 1 {
		if levels[level] < 10 {
			t.Errorf("only %d solutions in towers of level %d", levels[level], level)
		}
	}
}

// checkFurther checks that a further constraint leaves exactly those solutions of s for
// which it holds. It returns how many those are, and how many it does not leave.
func checkFurther(t *testing.T, s api.Sketch, list []api.Solution, c api.Constraint, place int) (int, int) {
	t.Helper()
	wider := sample.Sketch(s.Points, slices.Insert(slices.Clone(s.Constraints), place, c)...)
	after, err := solve.Solve(wider)
	if err != api.OK {
		return 0, 0
	}
	views := viewsOf(t, after)
	left := 0
	for _, v := range viewsOf(t, list) {
		holds, err := sketch.Holds(c, v.Tower, v.Points)
		if err != api.OK {
			t.Fatalf("Holds(%+v, %s): %d", c, solutionText(v.Solution), err)
		}
		if holds {
			left++
		}
		if slices.ContainsFunc(views, v.equals) != holds {
			t.Errorf("the constraint %+v holds for a solution of %+v: %t; but it is no solution with it, or one without: %s", c, s, holds, solutionText(v.Solution))
		}
	}
	if len(after) != left {
		t.Errorf("%+v has %d solutions with %+v, and %d without it for which it holds", s, len(after), c, left)
	}
	return left, len(list) - left
}

// P11.5: a further constraint leaves exactly those solutions for which it holds.
func TestFurther(t *testing.T) {
	t.Parallel()
	left, lost := 0, 0
	count := func(l int, n int) { left, lost = left+l, lost+n }
	for i, f := range sample.Figures(500, 14) {
		list, err := solve.Solve(f.Sketch)
		for k := 0; k < 8 && err == api.OK && len(f.Constraints) < api.MaxConstraints; k++ {
			c, ok := sample.Fitted(sample.Constraint(f.Points, uint64(i*8+k)), f.Places)
			if ok || k < 2 {
				count(checkFurther(t, f.Sketch, list, c, (i+k)%(len(f.Constraints)+1)))
			}
		}
	}
	for i, s := range sample.Constructions(500, 14) {
		list, err := solve.Solve(s)
		for k := 0; k < 4 && err == api.OK && len(s.Constraints) < api.MaxConstraints; k++ {
			count(checkFurther(t, s, list, sample.Constraint(s.Points, uint64(i*4+k)), (i+k)%(len(s.Constraints)+1)))
		}
	}
	if left < 300 || lost < 300 {
		t.Errorf("only %d solutions are left, and %d are lost", left, lost)
	}
}

// moved returns s with all fixed points moved.
func moved(t *testing.T, s api.Sketch, dx api.Ratio, dy api.Ratio) api.Sketch {
	t.Helper()
	out := sample.Sketch(s.Points)
	for _, c := range s.Constraints {
		if c.Kind == api.CFix {
			x, errX := rational.Add(c.X, dx)
			y, errY := rational.Add(c.Y, dy)
			if errX != api.OK || errY != api.OK || !sample.IsShort(x) || !sample.IsShort(y) {
				t.Fatalf("%+v cannot be moved", c)
			}
			c.X, c.Y = x, y
		}
		out.Constraints = append(out.Constraints, c)
	}
	return out
}

// P11.6: if all fixed points are moved, so are all solutions, in the same order.
func TestCongruence(t *testing.T) {
	t.Parallel()
	solutions := 0
	for i, s := range sketches(250, 15) {
		if slices.ContainsFunc(s.Constraints, func(c api.Constraint) bool { return len(c.X.Den) > 6 || len(c.Y.Den) > 6 }) {
			continue
		}
		by := sample.Places(1, 3, uint64(i))[0]
		list, err := solve.Solve(s)
		after, errAfter := solve.Solve(moved(t, s, by[0], by[1]))
		if err != api.OK || errAfter != api.OK {
			continue
		}
		if len(list) != len(after) {
			t.Errorf("%+v has %d solutions, and %d if it is moved by %v", s, len(list), len(after), by)
			continue
		}
		for k, x := range list {
			solutions++
			checkMoved(t, x, after[k], by)
		}
	}
	if solutions < 300 {
		t.Errorf("only %d solutions", solutions)
	}
}

// checkMoved checks that after is the solution x, moved.
func checkMoved(t *testing.T, x api.Solution, after api.Solution, by [2]api.Ratio) {
	t.Helper()
	want := api.Solution{Tower: x.Tower}
	for _, p := range x.Points {
		var q [2][]api.Ratio
		for axis := range 2 {
			way, _ := tower.FromRatio(x.Tower, by[axis])
			sum, err := tower.Add(x.Tower, p[axis], way)
			if err != api.OK {
				return
			}
			q[axis] = sum
		}
		want.Points = append(want.Points, q)
	}
	if !viewOf(t, want).equals(viewOf(t, after)) {
		t.Errorf("%s, moved by %v, is %s", solutionText(x), by, solutionText(after))
	}
}

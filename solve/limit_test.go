package solve_test

import (
	"strconv"
	"testing"

	"workpiece/api"
	"workpiece/sample"
)

// chain returns the sketch of the chapter's examples with further points, which have
// the given pairs of distances from the first two.
func chain(distances ...[2]string) api.Sketch {
	s := sample.Based(2 + len(distances))
	for i, pair := range distances {
		s.Constraints = append(s.Constraints, sample.Distance(0, 2+i, pair[0]), sample.Distance(2+i, 1, pair[1]))
	}
	return s
}

// P11.1: at most 16 branches after a step, and at most 4 square roots.
func TestLimits(t *testing.T) {
	fraction, root, tangent := [2]string{"5", "3"}, [2]string{"3", "3"}, [2]string{"1", "3"}
	five := chain(fraction, fraction, fraction, fraction, fraction)
	aside := func(s api.Sketch, c api.Constraint) api.Sketch {
		return sample.Sketch(s.Points, append(s.Constraints, c)...)
	}
	for i, c := range []struct {
		s    api.Sketch
		want string
	}{
		{chain(fraction, fraction, fraction, fraction), "16 0 "},
		{chain(fraction, tangent, fraction, fraction, tangent, fraction), "16 0 "},
		{five, "0 0 branches"},
		// A constraint that leaves fewer comes too late.
		{aside(five, sample.Tie(api.CHorizontal, 2, 3)), "0 0 branches"},
		{aside(chain(fraction, fraction, fraction, fraction), sample.Tie(api.CHorizontal, 2, 3)), "8 0 "},
		// The fifth pair is a tangent one: it does not matter which step it is.
		{chain(root), "2 1 "},
		{chain(root, fraction, [2]string{"7/2", "7/2"}, fraction), "16 2 "},
		{chain(root, root, root, root), "16 4 "},
		{chain(root, tangent, root, root, root, tangent), "16 4 "},
		{chain(root, root, root, root, root), "0 0 too large"},
		{chain(fraction, root, root, root, root), "0 0 branches"},
	} {
		n, level, reason := checkSolve(t, c.s)
		if got := strconv.Itoa(n) + " " + strconv.Itoa(level) + " " + string(reason); got != c.want {
			t.Errorf("%d: %q instead of %q", i, got, c.want)
		}
	}
}

// P11.1: 17 branches are too many. Point 2 is at (4, -3) or (4, 3), and each of the
// following ones is at the height 12, at one place for the former, and at two for the
// latter.
func TestOdd(t *testing.T) {
	s := chain([2]string{"5", "3"})
	s.Constraints = append(s.Constraints, sample.Fix(7, "0", "12"))
	for i, want := range []string{"3 0 ", "5 0 ", "9 0 ", "0 0 branches"} {
		p := 3 + i
		s.Constraints = append(s.Constraints, sample.Distance(2, p, "15"), sample.Tie(api.CHorizontal, p, 7))
		placed := sample.Sketch(8, s.Constraints...)
		for rest := p + 1; rest < 7; rest++ {
			placed.Constraints = append(placed.Constraints, sample.Fix(rest, "0", "0"))
		}
		n, level, reason := checkSolve(t, placed)
		if got := strconv.Itoa(n) + " " + strconv.Itoa(level) + " " + string(reason); got != want {
			t.Errorf("%d: %q instead of %q", p, got, want)
		}
	}
}

// P11.1: branches that end make place for others in the same step.
func TestTurnover(t *testing.T) {
	// Of the two places of point 2, (4, -3) and (4, 3), only one has a point 7 at the
	// height 3 near to it, and that has two of them.
	s := chain([2]string{"5", "3"}, [2]string{"5", "3"}, [2]string{"5", "3"}, [2]string{"5", "3"})
	s.Points = 8
	s.Constraints = append(s.Constraints, sample.Fix(6, "0", "3"), sample.Tie(api.CHorizontal, 6, 7), sample.Distance(2, 7, "1"))
	if n, _, reason := checkSolve(t, s); n != 16 || reason != "" {
		t.Errorf("%d solutions, %s", n, reason)
	}
	s.Constraints[len(s.Constraints)-1].Value = sample.Number("7")
	if n, _, reason := checkSolve(t, s); n != 0 || reason != "branches" {
		t.Errorf("%d solutions, %s", n, reason)
	}
}

// P11.1: steps that are undetermined, and such as have no points.
func TestUndetermined(t *testing.T) {
	online, perpendicular, equal, horizontal, vertical := api.COnLine, api.CPerpendicular, api.CEqual, api.CHorizontal, api.CVertical
	// The points 0 to 3 are at (0, 0), (4, 0), (0, 0) and (4, 3), and 4 is tied.
	four := []api.Constraint{sample.Fix(0, "0", "0"), sample.Fix(1, "4", "0"), sample.Fix(2, "0", "0"), sample.Fix(3, "4", "3")}
	for i, c := range []struct {
		one, two api.Constraint
		want     sample.Refusal
	}{
		{sample.Tie(online, 4, 0, 1), sample.Tie(horizontal, 0, 4), "parallel"},
		{sample.Tie(horizontal, 1, 4), sample.Tie(online, 0, 4, 1), "parallel"},
		{sample.Tie(online, 4, 0, 1), sample.Tie(horizontal, 3, 4), ""},
		{sample.Tie(horizontal, 4, 3), sample.Tie(online, 0, 1, 4), ""},
		{sample.Tie(online, 4, 1, 3), sample.Tie(vertical, 0, 4), ""},
		{sample.Tie(vertical, 0, 4), sample.Tie(online, 4, 1, 3), ""},
		{sample.Tie(online, 4, 1, 3), sample.Tie(vertical, 3, 4), "parallel"},
		{sample.Tie(online, 4, 0, 3), sample.Tie(perpendicular, 4, 1, 4, 3), "unplaced"},
		{sample.Tie(online, 4, 0, 3), sample.Tie(online, 2, 3, 4), "parallel"},
		{sample.Tie(online, 4, 0, 2), sample.Tie(horizontal, 4, 3), "degenerate"},
		{sample.Tie(vertical, 4, 3), sample.Tie(online, 0, 4, 2), "degenerate"},
		{sample.Tie(online, 4, 0, 2), sample.Tie(equal, 4, 2, 0), "degenerate"},
		{sample.Tie(perpendicular, 4, 0, 2, 0), sample.Tie(vertical, 1, 4), "degenerate"},
		{sample.Tie(vertical, 1, 4), sample.Tie(perpendicular, 2, 0, 0, 4), "degenerate"},
		{sample.Tie(equal, 4, 2, 0), sample.Distance(4, 1, "1"), "degenerate"},
		{sample.Distance(4, 1, "1"), sample.Tie(online, 2, 4, 0), "degenerate"},
		{sample.Distance(0, 4, "2"), sample.Distance(4, 2, "2"), "concentric"},
		{sample.Distance(0, 4, "2"), sample.Distance(4, 2, "3"), ""},
		{sample.Distance(4, 2, "3"), sample.Tie(equal, 0, 1, 4), ""},
		{sample.Distance(2, 4, "4"), sample.Tie(equal, 0, 4, 1), "concentric"},
		{sample.Distance(0, 4, "1"), sample.Distance(1, 4, "1"), ""},
		{sample.Distance(0, 4, "1"), sample.Tie(vertical, 4, 1), ""},
	} {
		n, _, reason := checkSolve(t, sample.Sketch(5, append(four[:4:4], c.one, c.two)...))
		if n != 0 || reason != c.want {
			t.Errorf("%d: %d solutions, %q instead of %q", i, n, reason, c.want)
		}
	}
}

// P11.1: a step that is undetermined for one branch only is one too many, unless there
// is no branch at all.
func TestUndeterminedBranch(t *testing.T) {
	// Point 2 is at (0, 0) or (8, 0), and point 3 is on the line through 0 and 2.
	two := sample.Based(4, sample.Distance(1, 2, "4"), sample.Tie(api.CHorizontal, 0, 2), sample.Tie(api.COnLine, 3, 0, 2), sample.Distance(1, 3, "1"))
	if n, _, reason := checkSolve(t, two); n != 0 || reason != "degenerate" {
		t.Errorf("%d solutions, %q", n, reason)
	}
	two.Constraints[2].Value = sample.Number("3")
	if n, _, reason := checkSolve(t, two); n != 4 || reason != "" {
		t.Errorf("%d solutions, %q", n, reason)
	}
	// Point 2 has no place, so that it does not matter what point 3 has.
	none := sample.Based(4, sample.Distance(0, 2, "1"), sample.Distance(1, 2, "1"), sample.Tie(api.COnLine, 3, 0, 1), sample.Tie(api.CHorizontal, 3, 0))
	if n, _, reason := checkSolve(t, none); n != 0 || reason != "" {
		t.Errorf("%d solutions, %q", n, reason)
	}
	none.Constraints[2].Value = sample.Number("5")
	if n, _, reason := checkSolve(t, none); n != 0 || reason != "parallel" {
		t.Errorf("%d solutions, %q", n, reason)
	}
}

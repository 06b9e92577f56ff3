package solve_test

import (
	"slices"
	"testing"

	"workpiece/api"
	"workpiece/sample"
	"workpiece/solve"
)

// checkSolve checks the result of Solve for s, and returns the number of solutions, the
// level of the highest of their towers, and the reason for which there are none.
func checkSolve(t *testing.T, s api.Sketch) (int, int, sample.Refusal) {
	t.Helper()
	list, err := solve.Solve(s)
	expected, reason := wantSolutions(s)
	want := solveOutcome(expected, api.OK)
	if reason != "" {
		want = refused
	}
	if got := solveOutcome(list, err); got != want {
		t.Errorf("Solve(%+v) = %s instead of %s (%s)", s, got, want, reason)
	}
	level := 0
	for _, x := range list {
		level = max(level, len(x.Tower.Radicands))
	}
	return len(list), level, reason
}

// P11.1: the examples of the chapter.
func TestExamples(t *testing.T) {
	for i, c := range []struct {
		one, two string
		further  []api.Constraint
		want     string
	}{
		{"5", "3", nil, "<> 0, 0; 4, 0; 4, -3 | <> 0, 0; 4, 0; 4, 3"},
		{"2", "2", nil, "<> 0, 0; 4, 0; 2, 0"},
		{"1", "2", nil, ""},
		{"3", "3", nil, "<320> 0 0, 0 0; 4 0, 0 0; 2 0, 0 -1/8 | <320> 0 0, 0 0; 4 0, 0 0; 2 0, 0 1/8"},
		{"3", "3", []api.Constraint{sample.Tie(api.CHorizontal, 1, 2)}, ""},
	} {
		s := sample.Based(3, append([]api.Constraint{sample.Distance(0, 2, c.one), sample.Distance(1, 2, c.two)}, c.further...)...)
		checkSolve(t, s)
		if got := solveOutcome(solve.Solve(s)); got != c.want {
			t.Errorf("%d: %s instead of %s", i, got, c.want)
		}
	}
}

// P11.1: all kinds of constraints that determine a point, and all pairs of loci, with
// other points in general places, in one line, in one place, and in places that are
// not rational.
func TestPairs(t *testing.T) {
	t.Parallel()
	places := [][]api.Constraint{
		{sample.Fix(0, "0", "0"), sample.Fix(1, "4", "0"), sample.Fix(2, "1", "3")},
		{sample.Fix(0, "-1", "1/2"), sample.Fix(1, "-1", "1/2"), sample.Fix(2, "2", "-3/2")},
		{sample.Fix(0, "0", "0"), sample.Fix(1, "1", "2"), sample.Fix(2, "-1", "-2")},
		{sample.Fix(0, "0", "0"), sample.Fix(1, "1", "0"), sample.Distance(0, 2, "3/2"), sample.Distance(2, 1, "3/2")},
		{sample.Fix(0, "2", "0"), sample.Fix(1, "2", "5"), sample.Tie(api.CVertical, 0, 2), sample.Distance(2, 1, "13/4")},
	}
	var loci []api.Constraint
	for _, c := range sample.Constraints(4) {
		switch {
		case sample.IsLocus(c, 3):
			loci = append(loci, c)
		case slices.Contains(sample.Indices(c), 3):
			for _, others := range places {
				checkSolve(t, sample.Sketch(4, append(slices.Clone(others), c)...))
			}
		}
	}
	reasons, levels, counts := map[sample.Refusal]int{}, map[int]int{}, map[int]int{}
	for i, one := range loci {
		for k, two := range loci {
			if (i+k)%3 == 0 {
				n, level, reason := checkSolve(t, sample.Sketch(4, append(slices.Clone(places[(i+k)%len(places)]), one, two)...))
				reasons[reason]++
				levels[level]++
				counts[n]++
			}
		}
	}
	if reasons["unplaced"] == 0 || reasons["concentric"] < 5 || reasons["parallel"] < 50 || reasons["degenerate"] < 50 {
		t.Errorf("the reasons %v", reasons)
	}
	if levels[1] < 50 || levels[2] < 20 || counts[0] < 100 || counts[1] < 100 || counts[2] < 50 || counts[4] < 20 {
		t.Errorf("the levels %v and the numbers of solutions %v", levels, counts)
	}
}

// P11.1: sketches of all sizes.
func TestSketches(t *testing.T) {
	t.Parallel()
	reasons, levels, counts := map[sample.Refusal]int{}, map[int]int{}, map[int]int{}
	for _, s := range slices.Concat(sample.Constructions(1200, 1), frameworks(100, 2), sample.Sketches(300, 3)) {
		n, level, reason := checkSolve(t, s)
		reasons[reason]++
		levels[level]++
		counts[n]++
	}
	for _, f := range sample.Figures(600, 4) {
		checkSolve(t, f.Sketch)
	}
	for _, reason := range []sample.Refusal{"unplaced", "branches", "concentric", "parallel", "degenerate", "too large"} {
		if reasons[reason] < 3 {
			t.Errorf("the reasons %v", reasons)
		}
	}
	for level := range 5 {
		if levels[level] < 5 {
			t.Errorf("the levels %v", levels)
		}
	}
	for _, n := range []int{0, 1, 2, 4, 8, 16} {
		if counts[n] < 20 {
			t.Errorf("the numbers of solutions %v", counts)
		}
	}
}

// P11.1: sketches with long fractions, so that computations are too large, or nearly
// so.
func TestLong(t *testing.T) {
	t.Parallel()
	reasons := map[sample.Refusal]int{}
	for length := 2; length <= api.MaxShort; length++ {
		for i, s := range append(sample.Constructions(150, uint64(length)), frameworks(15, uint64(length))...) {
			_, _, reason := checkSolve(t, sample.Lengthened(s, length, uint64(i)))
			reasons[reason]++
		}
	}
	if reasons[""] < 500 || reasons["too large"] < 100 || reasons["too large to check"] < 10 {
		t.Errorf("the reasons %v", reasons)
	}
}

// P11.1: sketches that are not valid, and such as leave points unplaced.
func TestInvalid(t *testing.T) {
	list := append(sample.InvalidSketches(), sample.Sketch(1), sample.Sketch(8), sample.Based(3), sample.Based(3, sample.Distance(0, 2, "3")), sample.Based(4, sample.Distance(0, 2, "3"), sample.Distance(1, 2, "3")), sample.Based(3, sample.Tie(api.CHorizontal, 0, 2), sample.Tie(api.CHorizontal, 2, 1)))
	for i, s := range list {
		if got := solveOutcome(solve.Solve(s)); got != refused {
			t.Errorf("%d: %s", i, got)
		}
	}
}

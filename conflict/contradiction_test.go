package conflict_test

import (
	"slices"
	"strings"
	"testing"

	"workpiece/api"
	"workpiece/conflict"
	"workpiece/sample"
	"workpiece/solve"
)

// checkContradiction checks Contradiction of s, and returns it.
func checkContradiction(t *testing.T, s api.Sketch) string {
	t.Helper()
	got := contradictionOutcome(conflict.Contradiction(s))
	if want := wantContradiction(s); got != want {
		t.Errorf("Contradiction(%+v) = %q instead of %q", s, got, want)
	}
	return got
}

// checkRefutes checks Refutes, and returns it.
func checkRefutes(t *testing.T, s api.Sketch, subset []int) bool {
	t.Helper()
	got := conflict.Refutes(s, subset)
	if got != wantRefutes(s, subset) {
		t.Errorf("Refutes(%+v, %v) = %t", s, subset, got)
	}
	return got
}

// P12.1: the examples of the chapter.
func TestContradictionExamples(t *testing.T) {
	s := sample.Based(3, sample.Distance(0, 2, "1"), sample.Distance(1, 2, "2"), sample.Tie(api.CHorizontal, 0, 1))
	if got := checkContradiction(t, s); got != "0 1 2 3" {
		t.Errorf("Contradiction = %s", got)
	}
	if checkRefutes(t, s, []int{0, 1, 2}) || checkRefutes(t, s, []int{2, 3}) {
		t.Error("a subset is refuted that is not")
	}
	s.Constraints[3].Value = sample.Number("3")
	if got := checkContradiction(t, s); got != "" {
		t.Errorf("Contradiction = %s", got)
	}
}

// P12.1, P12.3: the least subset that is refuted, and whether there is one.
func TestContradiction(t *testing.T) {
	t.Parallel()
	sizes := map[int]int{}
	for i, s := range crowded(700, 1) {
		if i%3 == 0 {
			s = sample.Lengthened(s, 10, uint64(i))
		}
		sizes[len(strings.Fields(checkContradiction(t, s)))]++
	}
	for _, f := range sample.Figures(100, 2) {
		f = fuller(f, 7, 3)
		f.Constraints = append(f.Constraints, sample.Constraint(f.Points, 4))
		sizes[len(strings.Fields(checkContradiction(t, f.Sketch)))]++
	}
	for size, least := range []int{150, 0, 150, 150, 50, 50, 20, 20, 3} {
		if sizes[size] < least {
			t.Errorf("only %d contradictions of %d constraints", sizes[size], size)
		}
	}
}

// P12.1: shorter subsets come first, then those with smaller elements.
func TestContradictionOrder(t *testing.T) {
	at := func(p int, x string) api.Constraint { return sample.Fix(p, x, "0") }
	level, upright := sample.Tie(api.CHorizontal, 0, 1), sample.Tie(api.CVertical, 0, 1)
	for i, c := range []struct {
		list []api.Constraint
		want string
	}{
		{[]api.Constraint{at(0, "1"), at(0, "2")}, "0 1"},
		{[]api.Constraint{at(0, "1"), at(0, "1")}, ""},
		{[]api.Constraint{at(0, "1"), at(0, "1"), at(0, "2")}, "0 2"},
		{[]api.Constraint{at(0, "1"), at(0, "2"), at(0, "3")}, "0 1"},
		{[]api.Constraint{at(2, "1"), at(0, "1"), at(0, "2"), at(2, "2")}, "0 3"},
		{[]api.Constraint{at(2, "1"), at(0, "1"), at(2, "1"), at(0, "2"), at(2, "2")}, "0 4"},
		{[]api.Constraint{at(1, "1"), at(0, "1"), at(2, "1"), at(0, "2"), at(2, "2")}, "1 3"},
		{[]api.Constraint{at(0, "1"), at(1, "2"), upright, at(2, "1"), at(2, "2")}, "3 4"},
		{[]api.Constraint{at(0, "1"), at(1, "2"), upright, at(2, "1"), at(2, "1")}, "0 1 2"},
		{[]api.Constraint{at(0, "1"), level, upright, at(1, "2"), sample.Distance(0, 1, "3"), sample.Distance(1, 0, "1")}, "0 2 3"},
		{[]api.Constraint{level, at(0, "1"), upright, sample.Distance(0, 1, "3"), sample.Distance(1, 0, "2")}, "1 3 4"},
		{[]api.Constraint{sample.Distance(1, 2, "1"), sample.Distance(0, 2, "1"), at(0, "1"), upright, at(1, "2"), level}, "2 3 4"},
		{[]api.Constraint{at(1, "1"), at(0, "1"), upright, sample.Distance(0, 1, "3"), sample.Distance(1, 0, "2")}, "0 1 3"},
		{slices.Concat(slices.Repeat([]api.Constraint{level}, 4), slices.Repeat([]api.Constraint{at(0, "1")}, 5), []api.Constraint{at(0, "2")}), "4 9"},
		{slices.Concat([]api.Constraint{at(0, "2")}, slices.Repeat([]api.Constraint{upright}, 4), slices.Repeat([]api.Constraint{at(1, "1")}, 5)), "0 1 5"},
	} {
		if got := checkContradiction(t, sample.Sketch(3, c.list...)); got != c.want {
			t.Errorf("%d: Contradiction = %q instead of %q", i, got, c.want)
		}
	}
}

// P12.1, P12.3: contradictions that need all constraints: each point hangs on the two
// before it, and the last one has no place.
func TestContradictionLong(t *testing.T) {
	for most := 2; most <= 5; most++ {
		s := sample.Based(most+1, sample.Distance(0, 2, "5"), sample.Distance(1, 2, "3"))
		for p := 3; p <= most; p++ {
			s.Constraints = append(s.Constraints, sample.Distance(p-2, p, "3"), sample.Distance(p, p-1, "2"))
		}
		if got := checkContradiction(t, s); got != "" {
			t.Errorf("Contradiction of a strip of %d points = %q", most+1, got)
		}
		count := len(s.Constraints)
		s.Constraints[count-1].Value = sample.Number("10")
		want := contradictionOutcome(masked(count, 1<<count-1), true)
		if got := checkContradiction(t, s); got != want {
			t.Errorf("Contradiction of a strip of %d points = %q instead of %q", most+1, got, want)
		}
	}
}

// P12.1: a sketch has at most 10 constraints, whatever they are.
func TestContradictionMany(t *testing.T) {
	one, two, level := sample.Fix(1, "1", "1"), sample.Fix(1, "1", "2"), sample.Tie(api.CHorizontal, 0, 1)
	for _, count := range []int{2, 3, 9, 10, 11, 12, 16, 17, 1000} {
		for _, list := range [][]api.Constraint{append([]api.Constraint{one, two}, slices.Repeat([]api.Constraint{level}, count-2)...), append(slices.Repeat([]api.Constraint{level}, count-2), one, two)} {
			if got := checkContradiction(t, sample.Sketch(2, list...)); (got != "") != (count <= 10) {
				t.Errorf("Contradiction with %d constraints = %q", count, got)
			}
		}
	}
	for _, n := range []int{-1, 0, 1, 8, 9} {
		if got := checkContradiction(t, sample.Sketch(n)); got != "" {
			t.Errorf("Contradiction of %d points = %q", n, got)
		}
	}
}

// P12.1: all subsets of sketches.
func TestRefutes(t *testing.T) {
	t.Parallel()
	refuted, kept := 0, 0
	check := func(s api.Sketch, subset []int) {
		if checkRefutes(t, s, subset) {
			refuted++
		} else {
			kept++
		}
	}
	for i, s := range crowded(240, 5) {
		s.Constraints = s.Constraints[:min(len(s.Constraints), 5+i%4)]
		for _, subset := range subsets(len(s.Constraints)) {
			check(s, subset)
		}
	}
	for i, s := range sample.Constructions(600, 6) {
		for k := 0; len(s.Constraints) < api.MaxConstraints; k++ {
			s.Constraints = append(s.Constraints, sample.Constraint(s.Points, uint64(i)<<8+uint64(k)))
		}
		for k := range 6 {
			random := []byte(sample.Bytes(2, uint64(6*i+k)))
			check(s, masked(len(s.Constraints), 1|int(random[0])<<8|int(random[1])))
		}
	}
	if refuted < 1500 || kept < 3000 {
		t.Errorf("only %d subsets are refuted, and %d are not", refuted, kept)
	}
}

// P12.1: more than 10 constraints, of which a subset may have all.
func TestRefutesMany(t *testing.T) {
	list := slices.Repeat([]api.Constraint{sample.Fix(7, "1", "2"), sample.Tie(api.CVertical, 3, 7)}, 7)
	s := sample.Sketch(8, append(list, sample.Fix(3, "1", "0"), sample.Tie(api.CHorizontal, 7, 3))...)
	if !checkRefutes(t, s, masked(16, 1<<16-1)) || !checkRefutes(t, s, []int{12, 14, 15}) || checkRefutes(t, s, masked(15, 1<<15-1)) {
		t.Error("the last constraint is refuted by a fixed point")
	}
	s.Constraints = append(s.Constraints, s.Constraints[0])
	if checkRefutes(t, s, []int{12, 14, 15}) {
		t.Error("a sketch with 17 constraints has a subset that is refuted")
	}
}

// P12.1: indices are strictly ascending, and there is at least one.
func TestRefutesForm(t *testing.T) {
	s := sample.Sketch(8, sample.Fix(7, "1", "1"), sample.Fix(7, "1", "1"), sample.Fix(7, "2", "1"), sample.Fix(7, "2", "1"))
	for i, c := range []struct {
		subset []int
		want   bool
	}{
		{[]int{0, 2}, true}, {[]int{0, 1, 2}, true}, {[]int{1, 3}, true}, {[]int{0, 1, 2, 3}, true}, {[]int{0}, false}, {[]int{2, 3}, false},
		{nil, false}, {[]int{}, false}, {[]int{2, 0}, false}, {[]int{0, 0, 2}, false}, {[]int{0, 2, 2}, false}, {[]int{0, 2, 1}, false}, {[]int{0, 2, 3, 3}, false}, {[]int{1, 0, 2}, false}, {[]int{0, 3, 2, 3}, false},
		{[]int{-1, 0, 2}, false}, {[]int{0, 2, 4}, false}, {[]int{0, 2, -1}, false}, {[]int{-1 << 63, 0, 2}, false}, {[]int{0, 2, 1<<63 - 1}, false}, {[]int{1<<63 - 1, -1 << 63, 0, 2}, false}, {[]int{0, 4, 2}, false}, {[]int{4}, false}, {[]int{-1}, false}, {make([]int, 1<<20), false},
	} {
		if got := checkRefutes(t, s, c.subset); got != c.want {
			t.Errorf("%d: Refutes = %t", i, got)
		}
	}
}

// P12.1: a sketch that is not valid has no subsets, even if the subset is one of a
// sketch that is.
func TestConflictInvalid(t *testing.T) {
	fine := sample.Sketch(8, sample.Fix(7, "1", "1"), sample.Fix(7, "2", "1"))
	if !checkRefutes(t, fine, []int{0, 1}) {
		t.Error("a point that is fixed twice")
	}
	for _, s := range sample.InvalidSketches() {
		for _, list := range [][]api.Constraint{s.Constraints, append(slices.Clone(fine.Constraints), s.Constraints...), append(slices.Clone(s.Constraints), fine.Constraints...)} {
			wrong := sample.Sketch(s.Points, list...)
			if checkRefutes(t, wrong, []int{0, 1}) || checkRefutes(t, wrong, []int{len(list) - 2, len(list) - 1}) && !sample.IsSketch(wrong) {
				t.Errorf("%d points, %d constraints: a subset is refuted", s.Points, len(list))
			}
			checkContradiction(t, wrong)
		}
	}
}

// P12.1: points are numbered anew in their order, and constraints are in order, so that
// the same step is the first one: if it has no place, a later one is not examined.
func TestPartOrder(t *testing.T) {
	none := func(p int) []api.Constraint {
		return []api.Constraint{sample.Distance(0, p, "1"), sample.Distance(p, 1, "1")}
	}
	undetermined := func(p int) []api.Constraint {
		return []api.Constraint{sample.Tie(api.COnLine, p, 0, 1), sample.Tie(api.CHorizontal, 0, p)}
	}
	for i, c := range []struct {
		list []api.Constraint
		want bool
	}{
		{slices.Concat(none(3), undetermined(5)), true}, {slices.Concat(undetermined(5), none(3)), true}, {slices.Concat(none(5), undetermined(3)), false}, {slices.Concat(undetermined(3), none(5)), false},
		// The first two loci place a point, and the third one is only checked.
		{append(none(5), undetermined(5)...), true}, {append(undetermined(5), none(5)...), false},
	} {
		s := sample.Based(8, c.list...)
		if got := checkRefutes(t, s, masked(len(s.Constraints), 1<<len(s.Constraints)-1)); got != c.want {
			t.Errorf("%d: Refutes = %t", i, got)
		}
	}
}

// P12.1: a subset is not refuted if its part cannot be solved, although it has no
// solutions.
func TestUnsolved(t *testing.T) {
	s := sample.Based(7)
	for p := 2; p < 7; p++ {
		s.Constraints = append(s.Constraints, sample.Distance(0, p, "5"), sample.Distance(p, 1, "3"))
	}
	// The points 2 and 3 are 6 away from each other, or in one place.
	s.Constraints = append(s.Constraints, sample.Distance(2, 3, "1"))
	all := masked(13, 1<<13-1)
	if checkRefutes(t, s, all) || !checkRefutes(t, s, slices.Delete(all, 10, 12)) || !checkRefutes(t, s, []int{0, 1, 2, 3, 4, 5, 12}) {
		t.Error("32 branches")
	}
	s.Constraints[5].Value, s.Constraints[3].Value = sample.Number("7/2"), sample.Number("7/2")
	if checkRefutes(t, s, []int{0, 1, 2, 3, 4, 5}) || !checkRefutes(t, s, []int{0, 1, 2, 3, 4, 5, 12}) {
		t.Error("square roots")
	}
	if _, err := solve.Solve(s); err == api.OK {
		t.Error("a sketch with 32 branches is solved")
	}
}

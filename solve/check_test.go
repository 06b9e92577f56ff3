package solve_test

import (
	"slices"
	"testing"

	"workpiece/api"
	"workpiece/sample"
	"workpiece/sketch"
	"workpiece/solve"
	"workpiece/tower"
)

// checkCheck checks the result of Check, and returns it.
func checkCheck(t *testing.T, s api.Sketch, x api.Solution) bool {
	t.Helper()
	want := sample.IsSketch(s) && len(x.Points) == s.Points
	for _, c := range s.Constraints {
		if want {
			want, _ = sketch.Holds(c, x.Tower, x.Points)
		}
	}
	got := solve.Check(s, x)
	if got != want {
		t.Errorf("Check(%+v, %s) = %t", s, solutionText(x), got)
	}
	return got
}

// extended returns the solution x in a tower with a further radicand, and false if
// that has too many.
func extended(t *testing.T, x api.Solution) (api.Solution, bool) {
	t.Helper()
	radicand, _ := tower.FromRatio(x.Tower, sample.Number("7"))
	wide, err := tower.Extend(x.Tower, radicand)
	out := api.Solution{Tower: wide}
	for _, p := range x.Points {
		var q [2][]api.Ratio
		for axis := range q {
			q[axis], _ = tower.Embed(wide, p[axis])
		}
		out.Points = append(out.Points, q)
	}
	return out, err == api.OK
}

// P11.1: solutions of a sketch, also in another tower, of another sketch, and with
// other points.
func TestCheck(t *testing.T) {
	t.Parallel()
	accepted, refused := 0, 0
	check := func(s api.Sketch, x api.Solution) {
		t.Helper()
		if checkCheck(t, s, x) {
			accepted++
		} else {
			refused++
		}
	}
	var last []api.Solution
	for i, s := range sketches(120, 21) {
		list, _ := solve.Solve(s)
		for k, x := range list {
			if !checkCheck(t, s, x) {
				t.Errorf("Check(%+v, %s) = false", s, solutionText(x))
			}
			if wide, ok := extended(t, x); ok {
				if !checkCheck(t, s, wide) {
					t.Errorf("Check(%+v, %s) = false", s, solutionText(wide))
				}
				wide.Points[i%s.Points] = x.Points[i%s.Points]
				check(s, wide)
			}
			other := api.Solution{Tower: x.Tower, Points: slices.Clone(x.Points)}
			other.Points[i%s.Points] = list[(k+1)%len(list)].Points[i%s.Points]
			check(s, other)
			other.Points[i%s.Points] = x.Points[k%s.Points]
			check(s, other)
			other.Points[i%s.Points] = [2][]api.Ratio{x.Points[i%s.Points][1], x.Points[i%s.Points][0]}
			check(s, other)
			check(s, api.Solution{Tower: x.Tower, Points: x.Points[1:]})
			check(s, api.Solution{Tower: x.Tower, Points: append(slices.Clone(x.Points), x.Points[0])})
		}
		for _, x := range last {
			check(s, x)
		}
		last = list
	}
	if accepted < 100 || refused < 500 {
		t.Errorf("%d are accepted, %d refused", accepted, refused)
	}
}

// P11.1: what constraints do not use need not be valid; everything else must be.
func TestCheckElements(t *testing.T) {
	one, none, wrong := sample.Numbers("1"), []api.Ratio(nil), []api.Ratio{{Num: "2", Den: "4"}}
	invalid := api.Solution{Tower: sample.Tower("-1"), Points: [][2][]api.Ratio{{none, none}, {wrong, one}}}
	partly := api.Solution{Points: [][2][]api.Ratio{{wrong, one}, {none, one}}}
	level := api.Solution{Tower: sample.Tower("2"), Points: [][2][]api.Ratio{{one, one}, {one, one}}}
	huge := api.Solution{Points: make([][2][]api.Ratio, 1<<20)}
	for i, c := range []struct {
		s    api.Sketch
		x    api.Solution
		want bool
	}{
		{sample.Sketch(2), invalid, true},
		{sample.Sketch(2), partly, true},
		{sample.Sketch(2), level, true},
		{sample.Sketch(2), api.Solution{}, false},
		{sample.Sketch(0), api.Solution{}, false},
		{sample.Sketch(8), api.Solution{Points: make([][2][]api.Ratio, 8)}, true},
		{sample.Sketch(9), api.Solution{Points: make([][2][]api.Ratio, 9)}, false},
		{sample.Sketch(1 << 20), huge, false},
		{sample.Sketch(8), huge, false},
		{sample.Sketch(2, sample.Tie(api.CHorizontal, 0, 1)), partly, true},
		{sample.Sketch(2, sample.Tie(api.CHorizontal, 1, 0)), partly, true},
		{sample.Sketch(2, sample.Tie(api.CVertical, 0, 1)), partly, false},
		{sample.Sketch(2, sample.Tie(api.CHorizontal, 0, 1)), invalid, false},
		{sample.Sketch(2, sample.Tie(api.CHorizontal, 0, 1)), level, false},
		{sample.Sketch(2, sample.Tie(api.CHorizontal, 0, 1), sample.Tie(api.CVertical, 0, 1)), partly, false},
		{sample.Sketch(2, sample.Tie(api.CVertical, 0, 1), sample.Tie(api.CHorizontal, 0, 1)), partly, false},
	} {
		if got := checkCheck(t, c.s, c.x); got != c.want {
			t.Errorf("%d: %t", i, got)
		}
	}
}

// P11.1: sketches that are not valid have no solutions.
func TestCheckInvalid(t *testing.T) {
	for i, s := range sample.InvalidSketches() {
		for n := range 10 {
			x := api.Solution{Points: slices.Repeat([][2][]api.Ratio{{sample.Numbers("1"), sample.Numbers("1")}}, n)}
			if solve.Check(s, x) {
				t.Errorf("%d: Check with %d points", i, n)
			}
		}
	}
	for i, u := range sample.InvalidTowers() {
		x := api.Solution{Tower: u, Points: slices.Repeat([][2][]api.Ratio{{sample.Numbers("1"), sample.Numbers("1")}}, 2)}
		if checkCheck(t, sample.Sketch(2, sample.Tie(api.CVertical, 0, 1)), x) {
			t.Errorf("%d: Check with a tower that is not valid", i)
		}
	}
}

package sketch_test

import (
	"slices"
	"testing"

	"workpiece/api"
	"workpiece/sample"
	"workpiece/sketch"
)

// marks are what stands where nothing is to be written to.
var (
	markRatio      = api.Ratio{Num: "marker"}
	markConstraint = api.Constraint{Kind: 99}
)

// P9.1: no function modifies its arguments or their spare capacity, and nothing
// that is written into a result reaches them, or another result.
func TestMemory(t *testing.T) {
	for i, c := range sample.Constraints(4) {
		points := grid(5, 3, uint64(i))
		guarded := sample.Guarded(points, [2]api.Ratio{markRatio, markRatio})
		calls := func() ([]api.Ratio, [][][2]api.Ratio, []int) {
			residuals, _ := sketch.Residual(c, guarded)
			gradient, _ := sketch.Gradient(c, guarded)
			return residuals, gradient, sketch.Uses(c)
		}
		residuals, gradient, used := calls()
		want := [2]string{text(residuals), gradientOutcome(gradient, api.OK)}
		wantUsed := slices.Clone(used)
		if len(gradient) > 1 {
			kept := slices.Clone(gradient[1])
			sample.Spoil(gradient[0], [2]api.Ratio{})
			if !slices.Equal(kept, gradient[1]) {
				t.Errorf("the gradients of %+v share memory", c)
			}
		}
		for _, g := range gradient {
			sample.Spoil(g, [2]api.Ratio{})
		}
		sample.Spoil(gradient, nil)
		sample.Spoil(residuals, api.Ratio{})
		sample.Spoil(used, -99)
		residuals, gradient, used = calls()
		if got := [2]string{text(residuals), gradientOutcome(gradient, api.OK)}; got != want || !slices.Equal(used, wantUsed) {
			t.Errorf("%+v: other results after the first ones were overwritten", c)
		}
		if !sample.Intact(guarded, points, [2]api.Ratio{markRatio, markRatio}) {
			t.Fatalf("the points are modified for %+v", c)
		}
	}
}

// P9.1: nor does Holds, in towers of all levels.
func TestHoldsMemory(t *testing.T) {
	for i, s := range sample.Extensions() {
		u := sample.Tower(s.Text)
		guardedTower := sample.Tower(s.Text)
		for k, d := range guardedTower.Radicands {
			guardedTower.Radicands[k] = sample.Guarded(d, markRatio)
		}
		for k, c := range chosen(i%40, 40) {
			list := points(s.Small(4, uint64(i)), 4, uint64(k))
			var guarded [][2][]api.Ratio
			for _, p := range list {
				guarded = append(guarded, [2][]api.Ratio{sample.Guarded(p[0], markRatio), sample.Guarded(p[1], markRatio)})
			}
			if got, want := holdsOutcome(sketch.Holds(c, guardedTower, guarded)), holdsOutcome(sketch.Holds(c, u, list)); got != want {
				t.Errorf("Holds(%+v) in %s = %s instead of %s", c, s.Text, got, want)
			}
			for p, q := range list {
				if !sample.Intact(guarded[p][0], q[0], markRatio) || !sample.Intact(guarded[p][1], q[1], markRatio) {
					t.Fatalf("the points are modified for %+v in %s", c, s.Text)
				}
			}
			for p, d := range u.Radicands {
				if !sample.Intact(guardedTower.Radicands[p], d, markRatio) {
					t.Fatalf("the tower %s is modified", s.Text)
				}
			}
		}
	}
}

// P9.1: nor do the functions of whole sketches.
func TestSketchMemory(t *testing.T) {
	for i, s := range sample.Sketches(200, 6) {
		guarded := api.Sketch{Points: s.Points, Constraints: sample.Guarded(s.Constraints, markConstraint)}
		if !sketch.Valid(guarded) || !sketch.Same(guarded, s) {
			t.Errorf("%d: another sketch with spare capacity", i)
		}
		code, _ := sketch.Encode(guarded)
		first, _ := sketch.Decode(code)
		sample.Spoil(first.Constraints, markConstraint)
		if second, _ := sketch.Decode(code); !sketch.Same(second, s) {
			t.Errorf("%d: another result after the first one was overwritten", i)
		}
		if !sample.Intact(guarded.Constraints, s.Constraints, markConstraint) {
			t.Fatalf("%d: the constraints are modified", i)
		}
	}
}

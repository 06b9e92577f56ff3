package conflict_test

import (
	"slices"
	"testing"

	"workpiece/api"
	"workpiece/conflict"
	"workpiece/sample"
)

// marks are what stands where nothing is to be written to.
var (
	markConstraint = api.Constraint{Kind: 99}
	markPair       = [2]api.Ratio{{Num: "marker"}, {Den: "marker"}}
)

const markIndex = -99

// P12.1: Contradiction and Refutes do not modify their arguments or their spare capacity,
// and results share no memory with later ones.
func TestSubsetMemory(t *testing.T) {
	found := 0
	for _, s := range crowded(60, 41) {
		tight := sample.Sketch(s.Points, sample.Guarded(s.Constraints, markConstraint)...)
		least, ok := conflict.Contradiction(tight)
		want := contradictionOutcome(least, ok)
		if subset := sample.Guarded(least, markIndex); ok {
			found++
			if !conflict.Refutes(tight, subset) || !sample.Intact(subset, least, markIndex) {
				t.Fatalf("the subset %v is modified", least)
			}
		}
		sample.Spoil(least, markIndex)
		if got := contradictionOutcome(conflict.Contradiction(tight)); got != want {
			t.Errorf("Contradiction(%+v) = %s, and then %s", s, want, got)
		}
		if !sample.Intact(tight.Constraints, s.Constraints, markConstraint) {
			t.Fatalf("the sketch %+v is modified", s)
		}
	}
	if found < 20 {
		t.Errorf("only %d contradictions", found)
	}
}

// P12.1: nor do Motion and Moves.
func TestMotionMemory(t *testing.T) {
	found := 0
	for _, p := range slices.Concat(special(60, 42), general(60, 2, 43)) {
		tight := sample.Sketch(p.Points, sample.Guarded(p.Constraints, markConstraint)...)
		points := sample.Guarded(p.points, markPair)
		velocity, ok, err := conflict.Motion(tight, points)
		want := motionOutcome(velocity, ok, err)
		if given := sample.Guarded(velocity, markPair); ok {
			found++
			if !conflict.Moves(tight, points, given) || !sample.Intact(given, velocity, markPair) {
				t.Fatalf("the velocity %s is modified", text(velocity))
			}
		}
		sample.Spoil(velocity, markPair)
		if got := motionOutcome(conflict.Motion(tight, points)); got != want {
			t.Errorf("Motion(%+v, %s) = %s, and then %s", p.Sketch, text(p.points), want, got)
		}
		if !sample.Intact(tight.Constraints, p.Constraints, markConstraint) || !sample.Intact(points, p.points, markPair) {
			t.Fatalf("the sketch %+v or its points %s are modified", p.Sketch, text(p.points))
		}
	}
	if found < 60 {
		t.Errorf("only %d velocities", found)
	}
}

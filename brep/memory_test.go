package brep_test

import (
	"slices"
	"strings"
	"testing"

	"workpiece/api"
	"workpiece/brep"
	"workpiece/sample"
)

// spoil overwrites b and its spare capacity, part by part. It reports whether each part
// was still what it had been, that is, whether they share no memory.
func spoil(b api.Brep) bool {
	apart := true
	before := text(b)
	sample.Spoil(b.Levels, api.Ratio{Num: "spoiled"})
	sample.Spoil(b.Curves, api.Curve{Kind: 98})
	sample.Spoil(b.Cells, api.Cell{Strip: 98})
	for i, s := range b.Slabs {
		lines := strings.Split(before, "\nslab ")
		apart = apart && strings.HasSuffix(text(api.Brep{Slabs: b.Slabs[i : i+1]}), "\nslab "+lines[i+1])
		sample.Spoil(s.Inside, i%2 == 0)
	}
	sample.Spoil(b.Slabs, api.Slab{Inside: []bool{true}})
	return apart
}

// spoilFaces overwrites faces and their spare capacity, and reports like spoil.
func spoilFaces(list []api.Face) bool {
	apart := true
	lines := strings.Split(facesText(list), "\n")
	for i, f := range list {
		apart = apart && facesText(list[i:i+1]) == lines[i]+"\n"
		sample.Spoil(f.Pieces, [2]int{98, 98})
	}
	sample.Spoil(list, api.Face{Kind: 98})
	return apart
}

// P16.1: Build does not modify its argument or its spare capacity, and nothing that is
// written into a result reaches the argument, or another result.
func TestBuildMemory(t *testing.T) {
	t.Parallel()
	for _, s := range append(known(), shaped(30, 4, 61)...) {
		tight := sample.GuardedSolid(s)
		first, err := brep.Build(tight)
		want := outcome(first, err)
		if !spoil(first) {
			t.Errorf("parts of %.900s share memory", want)
		}
		if !sample.IntactSolid(tight, s) {
			t.Fatalf("%.900s is modified, or shared", solidText(s))
		}
		if got := outcome(brep.Build(tight)); got != want {
			t.Errorf("Build = %.900s, and then %.900s", want, got)
		}
	}
}

// P16.1: the other functions do not modify their arguments or their spare capacity, and
// nothing that is written into a result reaches an argument, or another result.
func TestMemory(t *testing.T) {
	t.Parallel()
	list := representations(append(known(), shaped(20, 3, 62)...))
	list = slices.Concat(list, handmade(list, 60, 63), malformed()[:30])
	for i, b := range list {
		tight := sample.GuardedBrep(b)
		first, err := brep.Canonical(tight)
		want := outcome(first, err)
		faces, err := brep.Faces(tight)
		wantFaces := facesOutcome(faces, err)
		if !spoil(first) || !spoilFaces(faces) {
			t.Errorf("%d: parts of %.900s, or %.900s share memory", i, want, wantFaces)
		}
		for _, p := range sample.PointsNear(3, uint64(i)) {
			if membership(brep.Contains(tight, p[0], p[1], p[2])) != membership(brep.Contains(b, p[0], p[1], p[2])) {
				t.Errorf("%d: another point with spare capacity", i)
			}
		}
		if brep.Closed(tight) != brep.Closed(b) || !brep.Same(tight, b) || !brep.Same(b, tight) {
			t.Errorf("%d: another representation with spare capacity", i)
		}
		if !sample.IntactBrep(tight, b) {
			t.Fatalf("%d: %.900s is modified, or shared", i, text(b))
		}
		if got := outcome(brep.Canonical(tight)); got != want {
			t.Errorf("%d: Canonical = %.900s, and then %.900s", i, want, got)
		}
		if got := facesOutcome(brep.Faces(tight)); got != wantFaces {
			t.Errorf("%d: Faces = %.900s, and then %.900s", i, wantFaces, got)
		}
	}
}

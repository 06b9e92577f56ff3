package solid_test

import (
	"testing"

	"workpiece/api"
	"workpiece/sample"
	"workpiece/solid"
)

// Marks are what stands where nothing is to be written to.
var (
	markCurve = api.Curve{Kind: 99}
	markNode  = api.RegionNode{Op: 99}
	markPrism = api.Prism{Feature: 99}
	markRatio = api.Ratio{Num: "marker"}
)

// spoilRegion overwrites r and its spare capacity.
func spoilRegion(r api.Region) {
	sample.Spoil(r.Curves, markCurve)
	sample.Spoil(r.Nodes, markNode)
}

// spoil overwrites s and its spare capacity, prism by prism. It reports whether each of
// them was still what it had been, that is, whether they share no memory.
func spoil(s api.Solid) bool {
	apart := true
	var texts []string
	for _, p := range s.Prisms {
		texts = append(texts, regionText(p.Region))
	}
	for i, p := range s.Prisms {
		apart = apart && regionText(p.Region) == texts[i]
		spoilRegion(p.Region)
	}
	sample.Spoil(s.Prisms, markPrism)
	return apart
}

// P15.1: the functions do not modify their arguments or their spare capacity, and nothing
// that is written into a result reaches an argument, or another result.
func TestMemory(t *testing.T) {
	list := append(shaped(34, 5, 91), solids(6, 92)...)
	for i, s := range list {
		other := list[(i*7+3)%len(list)]
		tight, tightOther := sample.GuardedSolid(s), sample.GuardedSolid(other)
		check := func(what string, call func() (api.Solid, api.Errno)) {
			t.Helper()
			first, err := call()
			want := outcome(first, err)
			if !spoil(first) {
				t.Errorf("%s: prisms of %.900s share memory", what, want)
			}
			if !sample.IntactSolid(tight, s) || !sample.IntactSolid(tightOther, other) {
				t.Fatalf("%s: %.900s or %.900s is modified, or shared", what, text(s), text(other))
			}
			if got := outcome(call()); got != want {
				t.Errorf("%s: %.900s, and then %.900s", what, want, got)
			}
		}
		for op := api.RUnion; op <= api.RMinus; op++ {
			check("Combine", func() (api.Solid, api.Errno) { return solid.Combine(op, tight, tightOther) })
			check("Combine with nothing", func() (api.Solid, api.Errno) { return solid.Combine(op, tight, api.Solid{}) })
			check("Combine nothing", func() (api.Solid, api.Errno) { return solid.Combine(op, api.Solid{}, tight) })
			check("Combine with itself", func() (api.Solid, api.Errno) { return solid.Combine(op, tight, tight) })
		}
		check("Move", func() (api.Solid, api.Errno) { return solid.Move(tight, number("1"), number("2"), number("3")) })
		check("Move by nothing", func() (api.Solid, api.Errno) { return solid.Move(tight, number("0"), number("0"), number("0")) })
		code, err := solid.Encode(tight)
		if err != api.OK || !solid.Valid(tight) || !solid.Same(tight, s) {
			t.Errorf("%d: another solid with spare capacity", i)
		}
		check("Decode", func() (api.Solid, api.Errno) { return solid.Decode(code) })
		if decision(solid.Equal(tight, tightOther)) != decision(solid.Equal(s, other)) || decision(solid.Empty(tight)) != decision(solid.Empty(s)) {
			t.Errorf("%d: another decision with spare capacity", i)
		}
		for _, p := range sample.PointsNear(3, uint64(i)) {
			solid.Contains(tight, p[0], p[1], p[2])
		}
		if !sample.IntactSolid(tight, s) || !sample.IntactSolid(tightOther, other) {
			t.Fatalf("%d: %.900s or %.900s is modified", i, text(s), text(other))
		}
	}
}

// P15.1: nothing that is written into sections and levels reaches the solid, or a later
// result.
func TestSectionMemory(t *testing.T) {
	for i, s := range append(shaped(34, 5, 93), solids(6, 94)...) {
		tight := sample.GuardedSolid(s)
		want := levelsText(wantLevels(s))
		for round := range 2 {
			levels := solid.Levels(tight)
			if levelsText(levels) != want {
				t.Errorf("%d: Levels = %.900s in round %d", i, levelsText(levels), round)
			}
			for _, z := range levels {
				first, err := solid.Section(tight, z)
				text := regionOutcome(first, err)
				spoilRegion(first)
				if got := regionOutcome(solid.Section(tight, z)); got != text {
					t.Errorf("%d: Section = %.900s, and then %.900s", i, text, got)
				}
			}
			sample.Spoil(levels, markRatio)
			if !sample.IntactSolid(tight, s) {
				t.Fatalf("%d: %.900s is modified, or shared", i, text(s))
			}
		}
	}
}

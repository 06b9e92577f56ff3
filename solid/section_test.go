package solid_test

import (
	"slices"
	"strconv"
	"strings"
	"testing"

	"workpiece/api"
	"workpiece/rational"
	"workpiece/sample"
	"workpiece/solid"
)

// P15.1: the levels are all ends of prisms, each once.
func TestLevels(t *testing.T) {
	t.Parallel()
	total := 0
	for _, s := range append(solids(136, 21), sample.InvalidSolids()...) {
		got := solid.Levels(s)
		total += len(got)
		if levelsText(got) != levelsText(wantLevels(s)) {
			t.Errorf("Levels(%.900s) = %.900s", text(s), levelsText(got))
		}
		for i := 1; i < len(got); i++ {
			if rational.Compare(got[i-1], got[i]) >= 0 {
				t.Errorf("Levels(%.900s) = %.900s", text(s), levelsText(got))
			}
		}
	}
	if total < 3000 {
		t.Errorf("only %d levels", total)
	}
	for i, c := range []struct{ s, want string }{
		{"", ""}, {"add 0 3 disc 0 0 1", "0 3"}, {"cut 0 3 disc 0 0 1; add -1/2 0 disc 0 0 1; add 3 7 disc 0 0 1", "-1/2 0 3 7"}, {"add 10 20 disc 0 0 1; add 9 11 disc 0 0 1; cut -10 -9 disc 0 0 1", "-10 -9 9 10 11 20"}, {"add 1/3 1/2 disc 0 0 1; add 2/5 1/2 disc 0 0 1; add 0 1/3 disc 0 0 1", "0 1/3 2/5 1/2"},
	} {
		if got := solid.Levels(sample.Solid(c.s)); levelsText(got) != levelsText(sample.Numbers(c.want)) {
			t.Errorf("%d: Levels = %s", i, levelsText(got))
		}
	}
}

// checkSection checks Section as the chapter defines it, and returns the outcome.
func checkSection(t *testing.T, s api.Solid, z api.Ratio) string {
	t.Helper()
	want := refused
	if sample.IsSolid(s) && areFractions(z) {
		want = calculated(func() string { return regionText(wantSection(s, z)) })
	}
	got := regionOutcome(solid.Section(s, z))
	if got != want {
		t.Errorf("Section(%.900s; %.300v) = %.900s instead of %.900s", text(s), z, got, want)
	}
	return got
}

// P15.1: sections of many solids at levels, between them, below and above.
func TestSection(t *testing.T) {
	t.Parallel()
	count := map[string]int{}
	for i, s := range solids(102, 22) {
		list := slices.Concat(levelsOf(s), sample.Numbers("1/3 -1/3 7/5 6"), sample.Fractions(3, 150, uint64(i)))
		for _, z := range list {
			switch got := checkSection(t, s, z); got {
			case refused, regionText(api.Region{}):
				count[got]++
			default:
				count["region"]++
			}
		}
	}
	if count["region"] < 1000 || count[refused] < 1000 || count["[]"] < 1000 {
		t.Error(count)
	}
}

// P15.1: which prisms are in a section, and how.
func TestSectionKnown(t *testing.T) {
	s := sample.Solid("add 0 3 rectangle 0 0 4 4; cut 1 5 disc 2 2 1; add 3 4 disc 0 0 1")
	plate, hole, knob := s.Prisms[0].Region, s.Prisms[1].Region, s.Prisms[2].Region
	join := sample.Join
	drilledPlate := api.Region{Curves: slices.Concat(plate.Curves, hole.Curves), Nodes: slices.Concat(plate.Nodes, []api.RegionNode{sample.Leaf(4), join(api.RMinus, 6, 7)})}
	all := api.Region{Curves: slices.Concat(drilledPlate.Curves, knob.Curves), Nodes: slices.Concat(drilledPlate.Nodes, []api.RegionNode{sample.Leaf(5), join(api.RUnion, 8, 9)})}
	for z, want := range map[string]api.Region{"-1/1000000": {}, "0": plate, "1/2": plate, "1": drilledPlate, "2": drilledPlate, "3": all, "7/2": knob, "4": knob, "9/2": {}, "5": {}, "6": {}} {
		if got := checkSection(t, s, number(z)); got != regionText(want) {
			t.Errorf("Section at %s = %s", z, got)
		}
	}
}

// P15.1: sections with as many curves and nodes as a region can have, and with more.
func TestSectionLimits(t *testing.T) {
	plates := func(count int, step int) api.Solid {
		var parts []string
		for i := range count {
			at := strconv.Itoa(step * i)
			parts = append(parts, "add 0 1 rectangle "+at+" "+at+" 5"+at+" 6"+at)
		}
		return sample.Solid(strings.Join(parts, "; "))
	}
	for i, c := range []struct {
		s    api.Solid
		fits bool
	}{
		// Four curves each: 24 of six prisms, 28 of seven ones.
		{plates(6, 1), true}, {plates(7, 1), false}, {plates(16, 1), false},
		// Seven nodes each, and one to join them: 119 of 15 prisms, 127 of 16 ones.
		{plates(15, 0), true}, {plates(16, 0), false},
		{sample.Solid("add 0 1 circle 0 0 1" + strings.Repeat("; cut 0 1 circle 0 0 1", 15)), true},
	} {
		for _, z := range sample.Numbers("0 1/2 1") {
			if got := checkSection(t, c.s, z); (got != refused) != c.fits {
				t.Errorf("%d: Section at %v = %.300s", i, z, got)
			}
		}
		if got := checkSection(t, c.s, number("2")); got != regionText(api.Region{}) {
			t.Errorf("%d: Section above = %.300s", i, got)
		}
	}
}

// P15.1: solids and heights that are not valid.
func TestSectionInvalid(t *testing.T) {
	for _, s := range sample.InvalidSolids() {
		if got := checkSection(t, s, number("1/2")); got != refused {
			t.Errorf("Section(%.900s) = %s", text(s), got)
		}
	}
	for _, wrong := range sample.InvalidFractions() {
		for _, s := range []api.Solid{{}, drilled()} {
			if got := checkSection(t, s, wrong); got != refused {
				t.Errorf("Section at %.300v = %s", wrong, got)
			}
		}
	}
}

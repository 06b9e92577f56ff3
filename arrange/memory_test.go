package arrange_test

import (
	"fmt"
	"testing"

	"workpiece/api"
	"workpiece/arrange"
	"workpiece/sample"
)

// Marks are what stands where nothing is to be written to.
var (
	markCurve = api.Curve{Kind: 99}
	markCell  = api.Cell{Strip: 99}
	markNode  = api.RegionNode{Op: 99}
	markEvent = api.Event{One: 99}
	markRatio = api.Ratio{Num: "marker"}
)

// P14.1: the functions do not modify their arguments or their spare capacity, and nothing
// that is written into a result reaches a later one.
func TestMemory(t *testing.T) {
	for n, curves := range lists(20, 4, 91) {
		cells := cellsOf(curves)
		tight, tightCells := sample.Guarded(curves, markCurve), sample.Guarded(cells, markCell)
		for round := range 2 {
			events, err := arrange.Events(tight)
			if eventsOutcome(events, err) != eventsOutcome(arrange.Events(curves)) {
				t.Errorf("%d: other events with spare capacity", round)
			}
			for _, e := range events {
				u, element, err := arrange.Position(tight, e)
				if placeOutcome(u, element, err) != placeOutcome(arrange.Position(curves, e)) {
					t.Errorf("%d: another position with spare capacity", round)
				}
				sample.Spoil(element, markRatio)
				for _, d := range u.Radicands {
					sample.Spoil(d, markRatio)
				}
				sample.Spoil(u.Radicands, nil)
			}
			sample.Spoil(events, markEvent)
			list, err := arrange.Cells(tight)
			if cellsOutcome(list, err) != cellsText(cells) {
				t.Errorf("%d: other cells with spare capacity", round)
			}
			sample.Spoil(list, markCell)
			for i := range cells {
				arrange.Border(tight, tightCells, i)
				arrange.Locate(tight, tightCells, cells[i].X, cells[i].Y)
			}
		}
		if !sample.Intact(tight, curves, markCurve) || !sample.Intact(tightCells, cells, markCell) {
			t.Fatalf("%d: the arguments are modified", n)
		}
	}
}

// P14.1: the radicands and the coefficients of a position do not share memory.
func TestPositionMemory(t *testing.T) {
	curves := sample.CurvesOf("circle 0 0 4; line -1 1 0")
	u, element, err := arrange.Position(curves, api.Event{Two: 1})
	want := fmt.Sprint(element)
	sample.Spoil(u.Radicands[0], markRatio)
	if err != api.OK || fmt.Sprint(element) != want {
		t.Errorf("the element is %v after the radicand is overwritten", element)
	}
}

// P14.1: nor are regions modified.
func TestDecisionMemory(t *testing.T) {
	guarded := func(r api.Region) api.Region {
		return api.Region{Curves: sample.Guarded(r.Curves, markCurve), Nodes: sample.Guarded(r.Nodes, markNode)}
	}
	isIntact := func(copied, r api.Region) bool {
		return sample.Intact(copied.Curves, r.Curves, markCurve) && sample.Intact(copied.Nodes, r.Nodes, markNode)
	}
	list := regions(30, 92)
	for i, a := range list {
		b := list[(i*7+3)%len(list)]
		tightA, tightB := guarded(a), guarded(b)
		for _, c := range []struct{ got, want string }{
			{decision(arrange.Equal(tightA, tightB)), decision(arrange.Equal(a, b))},
			{decision(arrange.Within(tightA, tightB)), decision(arrange.Within(a, b))},
			{decision(arrange.Empty(tightA)), decision(arrange.Empty(a))},
		} {
			if c.got != c.want {
				t.Errorf("%s with spare capacity instead of %s", c.got, c.want)
			}
		}
		if !isIntact(tightA, a) || !isIntact(tightB, b) {
			t.Fatalf("%s or %s is modified", regionText(a), regionText(b))
		}
	}
}

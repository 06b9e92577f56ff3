package region_test

import (
	"testing"

	"workpiece/api"
	"workpiece/region"
	"workpiece/sample"
)

// marks are what stands where nothing is to be written to.
var (
	markCurve = api.Curve{Kind: 99}
	markNode  = api.RegionNode{Op: 99}
	markPair  = [2]api.Ratio{{Num: "marker"}, {Den: "marker"}}
)

// checkMemory checks that call does not modify the guarded regions, which are copies of
// list, and that nothing that is written into its result reaches them, or another result.
func checkMemory(t *testing.T, what string, copies []api.Region, list []api.Region, call func() (api.Region, api.Errno)) {
	t.Helper()
	first, err := call()
	want := regionOutcome(first, err)
	if err != api.OK {
		t.Errorf("%s: %s", what, want)
	}
	sample.Spoil(first.Curves, markCurve)
	sample.Spoil(first.Nodes, markNode)
	for i, r := range list {
		if !sample.IntactRegion(copies[i], r) {
			t.Fatalf("%s: %s is modified, or shared", what, text(r))
		}
	}
	if got := regionOutcome(call()); got != want {
		t.Errorf("%s: %s, and then %s", what, want, got)
	}
}

// P13.1: the functions of regions do not modify their arguments or their spare capacity,
// and share no memory with results.
func TestRegionMemory(t *testing.T) {
	x, y := number("1/2"), number("-3")
	for i, r := range append(sample.Regions(100, few, 91), modest(12, 92)...) {
		tight := sample.GuardedRegion(r)
		check := func(what string, call func() (api.Region, api.Errno)) {
			t.Helper()
			checkMemory(t, what, []api.Region{tight}, []api.Region{r}, call)
		}
		check("Move", func() (api.Region, api.Errno) { return region.Move(tight, x, y) })
		check("Move by nothing", func() (api.Region, api.Errno) { return region.Move(tight, number("0"), number("0")) })
		check("Mirror", func() (api.Region, api.Errno) { return region.Mirror(tight, x) })
		for op := api.RUnion; op <= api.RMinus; op++ {
			check("Combine with nothing", func() (api.Region, api.Errno) { return region.Combine(op, tight, api.Region{}) })
			check("Combine nothing", func() (api.Region, api.Errno) { return region.Combine(op, api.Region{}, tight) })
			if len(r.Nodes) < 60 {
				check("Combine with itself", func() (api.Region, api.Errno) { return region.Combine(op, tight, tight) })
			}
		}
		code, err := region.Encode(tight)
		if err != api.OK || !region.Valid(tight) || !region.Same(tight, r) {
			t.Errorf("%d: another region with spare capacity", i)
		}
		check("Decode", func() (api.Region, api.Errno) { return region.Decode(code) })
		inside := make([]bool, len(r.Curves))
		spare := sample.Guarded(inside, true)
		region.Evaluate(tight, spare)
		region.Contains(tight, x, y)
		if !sample.Intact(spare, inside, true) || !sample.IntactRegion(tight, r) {
			t.Fatalf("%s, or the values of its leaves, are modified", text(r))
		}
	}
}

// P13.1: nor does Combine of two regions, with common curves and without.
func TestCombineMemory(t *testing.T) {
	list := modest(16, 93)
	for _, a := range list {
		for _, b := range list {
			one, other := sample.GuardedRegion(a), sample.GuardedRegion(b)
			for op := api.RUnion; op <= api.RMinus; op++ {
				checkMemory(t, "Combine", []api.Region{one, other}, []api.Region{a, b}, func() (api.Region, api.Errno) { return region.Combine(op, one, other) })
			}
		}
	}
}

// P13.1: nor do the functions that return figures.
func TestFigureMemory(t *testing.T) {
	for i := range 44 {
		points := convex(3+i%22, uint64(i))
		tight := sample.Guarded(points, markPair)
		checkMemory(t, "Polygon", nil, nil, func() (api.Region, api.Errno) { return region.Polygon(tight) })
		if !sample.Intact(tight, points, markPair) {
			t.Fatalf("the points %v are modified", points)
		}
	}
	l := sample.Numbers("0 1 2 3")
	checkMemory(t, "Rectangle", nil, nil, func() (api.Region, api.Errno) { return region.Rectangle(l[0], l[1], l[2], l[3]) })
	checkMemory(t, "Disc", nil, nil, func() (api.Region, api.Errno) { return region.Disc(l[0], l[1], l[2]) })
}

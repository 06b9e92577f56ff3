package region_test

import (
	"slices"
	"testing"

	"workpiece/api"
	"workpiece/region"
	"workpiece/sample"
)

// checkCombine checks Combine as the chapter defines it, and returns whether there is a
// result.
func checkCombine(t *testing.T, op int, a, b api.Region) bool {
	t.Helper()
	r, err := region.Combine(op, a, b)
	checkValid(t, r, err)
	if got, want := regionOutcome(r, err), wantCombine(op, a, b); got != want {
		t.Errorf("Combine(%d, %.900s, %.900s) = %.900s instead of %.900s", op, text(a), text(b), got, want)
	}
	return err == api.OK
}

// P13.1: regions of all sizes, with common curves and without, and empty ones.
func TestCombine(t *testing.T) {
	t.Parallel()
	count := map[bool]int{}
	list := regions(200, 41)
	for i, a := range list {
		for k := range 12 {
			b := list[(i+k*k*7)%len(list)]
			for op := api.RUnion; op <= api.RMinus; op++ {
				count[checkCombine(t, op, a, b)]++
			}
		}
	}
	if count[true] < 2000 || count[false] < 2000 {
		t.Error(count)
	}
}

// P13.1: regions with some of the same curves, in any order.
func TestCombineCommon(t *testing.T) {
	all := sample.Curves(16, few, 42)
	known := map[int]int{}
	for i := range 400 {
		a := api.Region{Curves: sample.Reordered(all, sample.Shuffled(16, uint64(i))[:1+i%16])}
		b := api.Region{Curves: sample.Reordered(all, sample.Shuffled(16, uint64(i)+1<<40)[:1+i/16%16])}
		a.Nodes, b.Nodes = within(a.Curves...).Nodes, within(b.Curves...).Nodes
		r, err := region.Combine(api.RMinus, a, b)
		if !checkCombine(t, api.RMinus, a, b) {
			t.Errorf("Combine(%s, %s) = %d", text(a), text(b), err)
		}
		known[len(a.Curves)+len(b.Curves)-len(r.Curves)]++
	}
	if len(known) < 14 {
		t.Errorf("the numbers of common curves: %v", known)
	}
}

// leaves returns a region with the curves, and so many nodes.
func leaves(curves []api.Curve, nodes int) api.Region {
	return api.Region{Curves: curves, Nodes: slices.Repeat([]api.RegionNode{sample.Leaf(len(curves) - 1)}, nodes)}
}

// P13.1: as many curves and nodes as a result can have, and one more.
func TestCombineLimits(t *testing.T) {
	all := sample.Curves(48, few, 43)
	count := map[bool]int{}
	for _, first := range []int{1, 2, 11, 12, 13, 23, 24} {
		for _, second := range []int{1, 2, 11, 12, 13, 23, 24} {
			for common := range min(first, second) + 1 {
				a, b := leaves(all[:first], 1), leaves(all[first-common:][:second], 1)
				fits := first+second-common <= 24
				if checkCombine(t, api.RUnion, a, b) != fits {
					t.Errorf("%d and %d curves, %d of them the same: fits is not %t", first, second, common, fits)
				}
				count[fits]++
			}
		}
	}
	for _, first := range []int{1, 2, 58, 59, 60, 117, 118, 119, 120} {
		for _, second := range []int{1, 2, 58, 59, 60, 117, 118, 119, 120} {
			fits := first+second+1 <= 120
			for op := api.RUnion; op <= api.RMinus; op++ {
				if checkCombine(t, op, leaves(all[:2], first), leaves(all[1:3], second)) != fits {
					t.Errorf("%d and %d nodes: fits is not %t", first, second, fits)
				}
			}
			count[fits]++
		}
	}
	if count[true] < 100 || count[false] < 100 {
		t.Error(count)
	}
}

// P13.1: empty regions, with each operation; the largest region may be the other one.
func TestCombineEmpty(t *testing.T) {
	largest := leaves(sample.Curves(24, few, 44), 120)
	for _, r := range []api.Region{{}, {Curves: []api.Curve{}, Nodes: []api.RegionNode{}}, rectangle("0 0 2 2"), disc("0 0 1"), largest} {
		none := text(api.Region{})
		for i, c := range []struct {
			op       int
			with, to string
		}{{api.RUnion, text(r), text(r)}, {api.RIntersect, none, none}, {api.RMinus, text(r), none}} {
			if got := regionOutcome(region.Combine(c.op, r, api.Region{})); got != c.with {
				t.Errorf("%d: Combine(%s, empty) = %s", i, text(r), got)
			}
			if got := regionOutcome(region.Combine(c.op, api.Region{}, r)); got != c.to {
				t.Errorf("%d: Combine(empty, %s) = %s", i, text(r), got)
			}
		}
	}
}

// P13.1: what is no operation, and regions that are not valid, whatever the other one is.
func TestCombineInvalid(t *testing.T) {
	fine := []api.Region{{}, rectangle("0 0 2 2"), disc("0 0 1")}
	for _, op := range []int{-1 << 63, -1, 0, api.RLeaf, 5, 6, 1 << 40, 1<<63 - 1} {
		for _, a := range fine {
			for _, b := range fine {
				if checkCombine(t, op, a, b) {
					t.Errorf("Combine(%d, %s, %s)", op, text(a), text(b))
				}
			}
		}
	}
	for _, wrong := range sample.InvalidRegions() {
		for _, r := range fine {
			for op := api.RUnion; op <= api.RMinus; op++ {
				if checkCombine(t, op, wrong, r) || checkCombine(t, op, r, wrong) {
					t.Errorf("Combine(%d, %.500s) with %s", op, text(wrong), text(r))
				}
			}
		}
	}
}

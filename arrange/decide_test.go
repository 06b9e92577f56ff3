package arrange_test

import (
	"fmt"
	"slices"
	"strings"
	"testing"

	"workpiece/api"
	"workpiece/arrange"
	"workpiece/region"
	"workpiece/sample"
)

// regionText returns a text of r.
func regionText(r api.Region) string { return fmt.Sprintf("%.900s%v", curvesText(r.Curves), r.Nodes) }

// wantDecision returns the outcome of a function that reports whether holds is true for
// all sample points, by what a and b contain.
func wantDecision(a, b api.Region, holds func(inA, inB bool) bool) string {
	if !sample.IsRegion(a) || !sample.IsRegion(b) {
		return refused
	}
	curves := slices.Clone(a.Curves)
	for _, c := range b.Curves {
		if !slices.Contains(curves, c) {
			curves = append(curves, c)
		}
	}
	return sample.Calculated(api.ErrArrange, func() string {
		for _, c := range sample.Needed(arrange.Cells(curves)) {
			inA, inB := sample.Needed(region.Contains(a, c.X, c.Y)), sample.Needed(region.Contains(b, c.X, c.Y))
			if !holds(inA, inB) {
				return decision(false, c.X, c.Y, api.OK)
			}
		}
		return decision(true, api.Ratio{}, api.Ratio{}, api.OK)
	})
}

// checkDecisions checks Equal and Within of a and b, and Empty of a, and returns their
// outcomes.
func checkDecisions(t *testing.T, a, b api.Region) [3]string {
	t.Helper()
	equal := decision(arrange.Equal(a, b))
	within := decision(arrange.Within(a, b))
	empty := decision(arrange.Empty(a))
	for _, c := range []struct{ what, got, want string }{
		{"Equal", equal, wantDecision(a, b, func(inA, inB bool) bool { return inA == inB })},
		{"Within", within, wantDecision(a, b, func(inA, inB bool) bool { return !inA || inB })},
		{"Empty", empty, wantDecision(a, api.Region{}, func(inA, inB bool) bool { return !inA })},
	} {
		if c.got != c.want {
			t.Errorf("%s(%s; %s) = %s instead of %s", c.what, regionText(a), regionText(b), c.got, c.want)
		}
	}
	return [3]string{equal, within, empty}
}

// P14.1: regions that are equal or not, within each other or not, and empty or not.
func TestDecisionsKnown(t *testing.T) {
	square, halves := rectangle("-1 -1 1 1"), combined(api.RUnion, rectangle("-1 -1 0 1"), rectangle("0 -1 1 1"))
	seam := combined(api.RIntersect, rectangle("-1 -1 0 1"), rectangle("0 -1 1 1"))
	corner := combined(api.RMinus, square, disc("0 0 1"))
	for i, c := range []struct {
		a, b api.Region
		want string
	}{
		{square, square, "true true false"}, {square, halves, "true true false"}, {halves, square, "true true false"}, {api.Region{}, api.Region{}, "true true true"}, {seam, api.Region{}, "true true true"}, {api.Region{}, seam, "true true true"},
		{disc("0 0 1"), square, "false true false"}, {square, disc("0 0 1"), "false false false"}, {corner, square, "false true false"}, {combined(api.RUnion, corner, disc("0 0 1")), halves, "true true false"}, {corner, disc("0 0 1"), "false false false"},
		{api.Region{}, square, "false true true"}, {square, api.Region{}, "false false false"}, {seam, square, "false true true"}, {square, seam, "false false false"}, {combined(api.RMinus, square, halves), square, "false true true"}, {combined(api.RMinus, halves, square), seam, "true true true"},
		{combined(api.RUnion, triangle("-1 -1 1 -1 1 1"), triangle("-1 -1 1 1 -1 1")), square, "true true false"}, {disc("0 0 1"), disc("0 0 1001/1000"), "false true false"}, {disc("1 0 1"), disc("0 0 2"), "false true false"},
	} {
		got := ""
		for _, outcome := range checkDecisions(t, c.a, c.b) {
			word, _, _ := strings.Cut(outcome, " ")
			got += word + " "
		}
		if strings.TrimSpace(got) != c.want {
			t.Errorf("%d: %s instead of %s", i, got, c.want)
		}
	}
	// The curves of the first region come first: the circle, whose rightmost point is not
	// enclosed exactly, or the line, which is.
	small, right := disc("1/3 0 2/3"), sample.Region("line -1 0 -1", sample.Leaf(0))
	both := combined(api.RUnion, right, small)
	for i, c := range []struct {
		a, b api.Region
		x, y string
	}{{square, disc("0 0 1"), "-1/2", "-7/8"}, {disc("0 0 1"), square, "-1/2", "-7/8"}, {small, both, "3", "0"}, {both, small, "2", "0"}} {
		if got, want := checkDecisions(t, c.a, c.b)[0], decision(false, number(c.x), number(c.y), api.OK); got != want {
			t.Errorf("%d: Equal = %s instead of %s", i, got, want)
		}
	}
}

// P14.1: the decisions about many pairs of regions.
func TestDecisions(t *testing.T) {
	t.Parallel()
	count := map[string]int{}
	list := regions(60, 61)
	for i, a := range list {
		for k, b := range list {
			if i < 13 && k < 13 || (i*7+k)%20 == 0 {
				for at, outcome := range checkDecisions(t, a, b) {
					count[fmt.Sprint(at, strings.HasPrefix(outcome, "true"))]++
				}
			}
		}
	}
	if len(count) != 6 || slices.Min([]int{count["0 true"], count["0 false"], count["1 true"], count["1 false"], count["2 true"], count["2 false"]}) < 30 {
		t.Error(count)
	}
}

// P14.1: regions with large numbers.
func TestDecisionsLarge(t *testing.T) {
	t.Parallel()
	count := map[string]int{}
	for i := range 300 {
		pair := largePairs(1, uint64(i)<<30)[0]
		list := largeNumbers(i, uint64(i))
		a := api.Region{Curves: pair, Nodes: []api.RegionNode{sample.Leaf(0), sample.Leaf(1), sample.Join(2+i%3, i%2, 1-i%2)}}
		b := api.Region{Curves: sample.Curves(1, list, uint64(i)), Nodes: []api.RegionNode{sample.Leaf(0)}}
		if i%4 == 0 {
			b = api.Region{Curves: pair[:1], Nodes: []api.RegionNode{sample.Leaf(0)}}
		}
		for at, outcome := range checkDecisions(t, a, b) {
			count[fmt.Sprint(at, " ", strings.Fields(outcome)[0])]++
		}
	}
	for _, kind := range []string{"0 false", "0 error", "1 true", "1 false", "1 error", "2 false", "2 error"} {
		if count[kind] < 10 {
			t.Error(count)
		}
	}
}

// P14.1: whether a sample point is in a region can be too large, even if it matters for
// the other one only.
func TestDecisionsTooLarge(t *testing.T) {
	far := disc("0 " + sample.Power(150) + " 1")
	if cells, err := arrange.Cells(far.Curves); err != api.OK || len(cells) != 5 {
		t.Errorf("%d cells, %d", len(cells), err)
	}
	for i, c := range []struct{ a, b api.Region }{{far, far}, {far, api.Region{}}, {api.Region{}, far}} {
		got := checkDecisions(t, c.a, c.b)
		if got[0] != refused || got[1] != refused || got[2] != refused && i < 2 {
			t.Errorf("%d: %v", i, got)
		}
	}
}

// P14.1: regions that are not valid, and too many curves of both.
func TestDecisionsInvalid(t *testing.T) {
	for _, r := range sample.InvalidRegions() {
		for _, other := range []api.Region{{}, disc("0 0 1")} {
			one, two := checkDecisions(t, r, other), checkDecisions(t, other, r)
			if one != [3]string{refused, refused, refused} || two[0] != refused || two[1] != refused {
				t.Errorf("%v, %v with %.500s", one, two, regionText(r))
			}
		}
	}
	lines := func(from, to int) api.Region {
		var r api.Region
		for i := from; i < to; i++ {
			r.Curves = append(r.Curves, sample.Curve("line 0 1 "+fmt.Sprint(i)))
			r.Nodes = append(r.Nodes, sample.Leaf(i-from))
		}
		return r
	}
	for i, c := range []struct {
		a, b api.Region
		want [3]bool
	}{
		{lines(0, 20), lines(0, 20), [3]bool{}}, {lines(0, 21), lines(0, 20), [3]bool{true, true, true}}, {lines(0, 20), lines(0, 21), [3]bool{true, true, false}}, {lines(0, 20), lines(10, 20), [3]bool{}}, {lines(0, 20), lines(10, 21), [3]bool{true, true, false}}, {lines(0, 11), lines(9, 20), [3]bool{}}, {lines(0, 11), lines(10, 21), [3]bool{true, true, false}},
		{lines(0, 24), api.Region{}, [3]bool{true, true, true}},
	} {
		for k, outcome := range checkDecisions(t, c.a, c.b) {
			if (outcome == refused) != c.want[k] {
				t.Errorf("%d: %d: %s", i, k, outcome)
			}
		}
	}
}

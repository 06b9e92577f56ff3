package region_test

import (
	"slices"
	"testing"

	"workpiece/api"
	"workpiece/region"
	"workpiece/sample"
)

// P13.1: the value of all formulas of up to three operations over two curves, for all
// values of the leaves.
func TestEvaluateSmall(t *testing.T) {
	curves := sample.CurvesOf("line 1 0 2; circle 0 0 25")
	trues := 0
	var check func(nodes []api.RegionNode, more int)
	check = func(nodes []api.RegionNode, more int) {
		r := api.Region{Curves: curves, Nodes: nodes}
		for leaves := range 4 {
			inside := []bool{leaves&1 > 0, leaves&2 > 0}
			got := truth(region.Evaluate(r, inside))
			if want := wantEvaluate(r, inside); got != want {
				t.Errorf("Evaluate(%v, %v) = %s instead of %s", nodes, inside, got, want)
			}
			if got == "true" {
				trues++
			}
		}
		if more == 0 {
			return
		}
		for op := api.RUnion; op <= api.RMinus; op++ {
			for left := range nodes {
				for right := range nodes {
					check(append(slices.Clone(nodes), sample.Join(op, left, right)), more-1)
				}
			}
		}
	}
	check([]api.RegionNode{sample.Leaf(0), sample.Leaf(1)}, 3)
	if trues < 5000 {
		t.Errorf("only %d are true", trues)
	}
}

// P13.1: regions of all sizes with any values of their leaves, and with too few and too
// many values.
func TestEvaluate(t *testing.T) {
	count := map[string]int{}
	for i, r := range append(regions(300, 21), sample.InvalidRegions()...) {
		random := sample.Bytes(60, uint64(i))
		for k := range 20 {
			size := len(r.Curves)
			if k%4 == 3 {
				size = max(0, size+k/4-2)
			}
			var inside []bool
			for at := range size {
				inside = append(inside, random[(at+k)%60]&1 > 0)
			}
			got := truth(region.Evaluate(r, inside))
			if want := wantEvaluate(r, inside); got != want {
				t.Errorf("Evaluate(%.500s, %v) = %s instead of %s", text(r), inside, got, want)
			}
			count[got]++
		}
	}
	if count["true"] < 1000 || count["false"] < 1000 || count[refused] < 1000 {
		t.Error(count)
	}
	if got := truth(region.Evaluate(api.Region{}, nil)); got != "false" {
		t.Errorf("Evaluate of the empty region = %s", got)
	}
	if got := truth(region.Evaluate(api.Region{}, []bool{false})); got != refused {
		t.Errorf("Evaluate of the empty region with a leaf = %s", got)
	}
}

// P13.1, P13.2: regions of all sizes and points on curves and beside them.
func TestContains(t *testing.T) {
	t.Parallel()
	count := map[string]int{}
	for i, r := range sample.Regions(250, few, 22) {
		for _, p := range points(20, few, uint64(i)) {
			got := truth(region.Contains(r, p[0], p[1]))
			if want := wantContains(r, p[0], p[1]); got != want {
				t.Errorf("Contains(%s; %v) = %s instead of %s", text(r), p, got, want)
			}
			count[got]++
		}
	}
	if count["true"] < 1000 || count["false"] < 1000 || count[refused] > 0 {
		t.Error(count)
	}
}

// P13.1: a Side that is too large, whether the value depends on it or not, and large ones
// that are not.
func TestContainsLarge(t *testing.T) {
	t.Parallel()
	count := map[string]int{}
	check := func(r api.Region, p [2]api.Ratio) {
		got := truth(region.Contains(r, p[0], p[1]))
		if want := wantContains(r, p[0], p[1]); got != want {
			t.Errorf("Contains(%s; %v) = %s instead of %s", text(r), p, got, want)
		}
		count[got]++
	}
	for i, r := range sample.Regions(400, large(23), 24) {
		// With more curves, one of the sides is mostly too large.
		if len(r.Curves) > 4 {
			continue
		}
		for _, p := range points(20, large(25), uint64(i)) {
			check(r, p)
		}
	}
	far := [2]api.Ratio{number(sample.Power(150)), number("0")}
	for at := range 4 {
		r := sample.Region("line 1 0 2; line 0 1 2; line 1 1 2; line -1 1 3", sample.Leaf(at))
		check(r, far)
		for circle := range 4 {
			r := api.Region{Curves: slices.Clone(r.Curves), Nodes: r.Nodes}
			r.Curves[circle] = sample.Curve("circle 0 0 25")
			if got := truth(region.Contains(r, far[0], far[1])); got != refused {
				t.Errorf("the leaf %d, the circle %d: Contains = %s", at, circle, got)
			}
		}
	}
	if count["true"] < 60 || count["false"] < 300 || count[refused] < 300 {
		t.Error(count)
	}
}

// P13.1: regions that are not valid, and points that are none; also of the empty region.
func TestContainsInvalid(t *testing.T) {
	one := number("1")
	for _, r := range sample.InvalidRegions() {
		if got := truth(region.Contains(r, one, one)); got != refused {
			t.Errorf("Contains(%.500s) = %s", text(r), got)
		}
	}
	for _, r := range []api.Region{{}, rectangle("0 0 2 2"), disc("0 0 5")} {
		for _, wrong := range sample.InvalidFractions() {
			for _, p := range [][2]api.Ratio{{wrong, one}, {one, wrong}, {wrong, wrong}} {
				if got := truth(region.Contains(r, p[0], p[1])); got != refused {
					t.Errorf("Contains(%s; %.300v) = %s", text(r), p, got)
				}
			}
		}
	}
	if got := truth(region.Contains(api.Region{}, one, one)); got != "false" {
		t.Errorf("the empty region contains a point: %s", got)
	}
}

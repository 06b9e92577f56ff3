package region_test

import (
	"slices"
	"testing"

	"workpiece/api"
	"workpiece/region"
	"workpiece/sample"
)

// rectangle returns the rectangle whose sides are at the words of s.
func rectangle(s string) api.Region {
	l := sample.Numbers(s)
	r, err := region.Rectangle(l[0], l[1], l[2], l[3])
	if err != api.OK {
		panic("not a rectangle: " + s)
	}
	return r
}

// disc returns the disc with the center and the radius that are the words of s.
func disc(s string) api.Region {
	l := sample.Numbers(s)
	r, err := region.Disc(l[0], l[1], l[2])
	if err != api.OK {
		panic("not a disc: " + s)
	}
	return r
}

// P13.1: the examples of the chapter.
func TestExamples(t *testing.T) {
	side := func(c string, x, y string) string {
		return sideOutcome(region.Side(sample.Curve(c), number(x), number(y)))
	}
	contains := func(r api.Region, x, y string) string {
		return truth(region.Contains(r, number(x), number(y)))
	}
	less, errLess := region.Combine(api.RMinus, rectangle("0 0 2 2"), disc("0 0 1"))
	mirrored, errMirrored := region.Mirror(rectangle("0 0 1 1"), number("0"))
	if errLess != api.OK || errMirrored != api.OK {
		t.Error(errLess, errMirrored)
	}
	for i, c := range []struct{ got, want string }{
		{side("line 1 0 2", "1", "5"), "1"}, {side("line 1 0 2", "2", "5"), "0"}, {side("line 1 0 2", "3", "5"), "-1"}, {side("circle 0 0 25", "3", "4"), "0"},
		{contains(rectangle("0 0 2 1"), "2", "1"), "true"}, {contains(rectangle("0 0 2 1"), "2", "2"), "false"},
		{contains(less, "1", "0"), "false"}, {contains(less, "1", "1"), "true"},
		{contains(mirrored, "-1", "1"), "true"}, {contains(mirrored, "1", "1"), "false"},
	} {
		if c.got != c.want {
			t.Errorf("%d: %s instead of %s", i, c.got, c.want)
		}
	}
	triangle, err := region.Polygon(pairs("0 0 2 0 0 2"))
	if want := sample.Region("line 0 -1 0; line 1 1 2; line -1 0 0"); err != api.OK || !slices.Equal(triangle.Curves, want.Curves) {
		t.Errorf("Polygon = %s, %d", text(triangle), err)
	}
}

// P13.1: curves of all kinds with small fractions, large ones, and what is none.
func TestValidCurve(t *testing.T) {
	valid := 0
	check := func(c api.Curve) {
		if sample.IsCurve(c) {
			valid++
		}
		if got := region.ValidCurve(c); got != sample.IsCurve(c) {
			t.Errorf("ValidCurve(%.300v) = %t", c, got)
		}
	}
	list := slices.Concat(sample.Numbers("0 1 -1 2 -2 1/2 -1/2 -3"), []api.Ratio{{}, {Num: "2", Den: "2"}, {Num: "-0", Den: "1"}})
	for kind := -1; kind <= 4; kind++ {
		for i := range len(list) * len(list) * len(list) {
			n := len(list)
			check(api.Curve{Kind: kind, A: list[i%n], B: list[i/n%n], C: list[i/n/n]})
		}
	}
	for _, r := range slices.Concat(sample.LargeFractions(), sample.InvalidFractions()) {
		for _, c := range sample.CurvesOf("line 1 0 2; line -1 2 1; line 0 1 0; line 0 -1 1; circle 0 0 25; circle 1/2 -3 1/4") {
			for field := range 3 {
				changed := c
				*[]*api.Ratio{&changed.A, &changed.B, &changed.C}[field] = r
				check(changed)
			}
		}
	}
	for _, c := range slices.Concat(sample.InvalidCurves(), sample.Curves(300, few, 1), sample.Curves(300, large(2), 2)) {
		check(c)
	}
	if valid < 2000 {
		t.Errorf("only %d curves are valid", valid)
	}
}

// P13.1: nodes with all values of all fields, at all places.
func TestValidNodes(t *testing.T) {
	small := sample.Region("line 1 0 2; circle 0 0 25", sample.Leaf(0), sample.Leaf(1), sample.Join(api.RMinus, 0, 1), sample.Leaf(0))
	valid := 0
	for i := range 8 * 6 * 6 * 6 {
		n := api.RegionNode{Op: i%8 - 1, Curve: i/8%6 - 1, Left: i/48%6 - 1, Right: i/288 - 1}
		for at := range small.Nodes {
			r := api.Region{Curves: small.Curves, Nodes: slices.Clone(small.Nodes)}
			r.Nodes[at] = n
			if sample.IsRegion(r) {
				valid++
			}
			if got := region.Valid(r); got != sample.IsRegion(r) {
				t.Errorf("Valid with the node %v at %d = %t", n, at, got)
			}
		}
	}
	if valid < 40 {
		t.Errorf("only %d regions are valid", valid)
	}
}

// P13.1: as many curves and nodes as there can be, and one more; no curves and no nodes.
func TestValidSizes(t *testing.T) {
	many := sample.Curves(26, few, 3)
	for _, curves := range []int{0, 1, 23, 24, 25, 26} {
		for _, nodes := range []int{0, 1, 119, 120, 121, 1 << 16} {
			r := api.Region{Curves: many[:curves], Nodes: slices.Repeat([]api.RegionNode{sample.Leaf(max(curves-1, 0))}, nodes)}
			want := curves == 0 && nodes == 0 || curves >= 1 && curves <= 24 && nodes >= 1 && nodes <= 120
			if got := region.Valid(r); got != want {
				t.Errorf("Valid with %d curves and %d nodes = %t", curves, nodes, got)
			}
		}
	}
	if region.Valid(api.Region{Curves: slices.Repeat(many[:1], 1<<16), Nodes: []api.RegionNode{sample.Leaf(0)}}) {
		t.Error("Valid with 65536 curves")
	}
	if !region.Valid(api.Region{Curves: []api.Curve{}, Nodes: []api.RegionNode{}}) {
		t.Error("the empty region is not valid")
	}
}

// P13.1: equal curves at any two places; the curves of one region in another order.
func TestValidEqualCurves(t *testing.T) {
	many := sample.Curves(24, few, 4)
	for i := range many {
		for k := range many {
			r := api.Region{Curves: slices.Clone(many), Nodes: []api.RegionNode{sample.Leaf(0)}}
			r.Curves[i] = r.Curves[k]
			if got := region.Valid(r); got != (i == k) {
				t.Errorf("Valid with the curve %d at %d = %t", k, i, got)
			}
			r.Curves[k] = many[i]
			if !region.Valid(r) {
				t.Errorf("not valid after the curves %d and %d are exchanged", i, k)
			}
		}
	}
}

// P13.1: regions of all sizes, and those that are not valid for some reason.
func TestValid(t *testing.T) {
	for i, r := range regions(300, 5) {
		if !region.Valid(r) {
			t.Errorf("%d: Valid(%s) = false", i, text(r))
		}
	}
	for i, r := range sample.InvalidRegions() {
		if sample.IsRegion(r) || region.Valid(r) {
			t.Errorf("%d: Valid(%.500s) = true", i, text(r))
		}
	}
}

// P13.1: the same region, and one with another value of any field, valid or not.
func TestSame(t *testing.T) {
	for i, a := range append(regions(60, 6), sample.InvalidRegions()[:8]...) {
		b := api.Region{Curves: slices.Clone(a.Curves), Nodes: slices.Clone(a.Nodes)}
		check := func(want bool, what string, k int) {
			t.Helper()
			if region.Same(a, b) != want || region.Same(b, a) != want {
				t.Errorf("%d: Same is not %t: %s %d", i, want, what, k)
			}
		}
		check(true, "copy", 0)
		for k := range b.Curves {
			c := &b.Curves[k]
			for field, change := range []func(){
				func() { c.Kind++ }, func() { c.A.Num += "0" }, func() { c.A.Den += "0" }, func() { c.B.Num += "0" }, func() { c.B.Den += "0" }, func() { c.C.Num += "0" }, func() { c.C.Den += "0" },
			} {
				kept := *c
				change()
				check(false, "curve", 10*k+field)
				*c = kept
			}
		}
		for k := range min(len(b.Nodes), 200) {
			n := &b.Nodes[k]
			for field, change := range []func(){func() { n.Op++ }, func() { n.Curve++ }, func() { n.Left++ }, func() { n.Right++ }} {
				kept := *n
				change()
				check(false, "node", 10*k+field)
				*n = kept
			}
		}
		b.Curves = append(b.Curves, api.Curve{})
		check(false, "one more curve", 0)
		b = api.Region{Curves: a.Curves, Nodes: append(slices.Clone(a.Nodes), api.RegionNode{})}
		check(false, "one more node", 0)
	}
	if !region.Same(api.Region{}, api.Region{Curves: []api.Curve{}, Nodes: []api.RegionNode{}}) {
		t.Error("Same tells nil and empty apart")
	}
}

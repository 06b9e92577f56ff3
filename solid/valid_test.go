package solid_test

import (
	"slices"
	"testing"

	"workpiece/api"
	"workpiece/sample"
	"workpiece/solid"
)

// P15.1: the examples of the chapter.
func TestExamples(t *testing.T) {
	s, half := drilled(), number("1/2")
	contains := func(x, y, z string) string {
		return truth(solid.Contains(s, number(x), number(y), number(z)))
	}
	less := combined(api.RMinus, s, s)
	section, errSection := solid.Section(s, number("4"))
	nothing, point, errNothing := solid.Empty(less)
	empty, inside, errEmpty := solid.Empty(s)
	for i, c := range []struct{ got, want string }{
		{contains("2", "2", "1/2"), "true"}, {contains("2", "2", "2"), "false"}, {contains("1/2", "2", "2"), "true"},
		{levelsText(solid.Levels(s)), levelsText(sample.Numbers("0 1 3 5"))},
		{regionOutcome(section, errSection), regionText(api.Region{})},
		{decision(nothing, point, errNothing), decision(true, [3]api.Ratio{}, api.OK)},
	} {
		if c.got != c.want {
			t.Errorf("%d: %s instead of %s", i, c.got, c.want)
		}
	}
	if len(less.Prisms) != 2 || less.Prisms[0].Lo != number("0") || less.Prisms[0].Hi != number("1") || less.Prisms[1].Lo != number("1") || less.Prisms[1].Hi != number("3") {
		t.Errorf("Combine(RMinus, s, s) = %s", text(less))
	}
	if empty || errEmpty != api.OK || inside[2] != half {
		t.Errorf("Empty(s) = %t, %v, %d", empty, inside, errEmpty)
	}
	if got := truth(solid.Contains(s, inside[0], inside[1], inside[2])); got != "true" {
		t.Errorf("Contains(s, %v) = %s", inside, got)
	}
}

// P15.1: prisms with all kinds of ends and features, also such that are none.
func TestValid(t *testing.T) {
	t.Parallel()
	count := map[bool]int{}
	check := func(s api.Solid) {
		t.Helper()
		want := sample.IsSolid(s)
		count[want]++
		if got := solid.Valid(s); got != want {
			t.Errorf("Valid(%.900s) = %t", text(s), got)
		}
	}
	base := sample.Solid("add 0 3 rectangle 0 0 4 4; cut 1 5 disc 2 2 1; add -1/2 1/3 polygon 0 0 3 0 0 3")
	changed := func(i int, change func(p *api.Prism)) {
		s := api.Solid{Prisms: slices.Clone(base.Prisms)}
		change(&s.Prisms[i])
		check(s)
	}
	ends := slices.Concat(few, sample.LargeFractions(), sample.InvalidFractions())
	for i, lo := range ends {
		for k, hi := range ends {
			if (i*7+k)%5 > 0 && i > 15 && k > 15 {
				continue
			}
			changed((i+k)%3, func(p *api.Prism) { p.Lo, p.Hi = lo, hi })
		}
	}
	for i := range 3 {
		for _, id := range []int{0, 1, 2, 999999, 1000000, 1000001, 1000002, -1, -2, -1000000, 1 << 32, 1<<63 - 1, -1 << 63} {
			changed(i, func(p *api.Prism) { p.Feature = id })
		}
		for _, r := range slices.Concat(sample.Regions(30, few, 1), sample.InvalidRegions()) {
			changed(i, func(p *api.Prism) { p.Region = r })
		}
	}
	for n := range 40 {
		check(api.Solid{Prisms: slices.Repeat(base.Prisms, 14)[:n]})
	}
	for _, s := range append(solids(17, 2), sample.InvalidSolids()...) {
		check(s)
	}
	if count[true] < 1000 || count[false] < 1000 {
		t.Error(count)
	}
}

// P15.1: how many prisms there can be.
func TestValidSizes(t *testing.T) {
	for n := range 20 {
		s := api.Solid{Prisms: slices.Repeat(drilled().Prisms[1:], n)}
		if got := solid.Valid(s); got != (n <= 16) {
			t.Errorf("Valid with %d prisms = %t", n, got)
		}
	}
}

// P15.1: solids that differ in one field, or in the order or the number of their prisms,
// are not the same, valid or not.
func TestSame(t *testing.T) {
	t.Parallel()
	base := sample.Solid("add 0 3 rectangle 0 0 4 4; cut 1 5 disc 2 2 1; add -1/2 1/3 polygon 0 0 3 0 0 3")
	list := append(solids(17, 3), base, api.Solid{Prisms: base.Prisms[:1]}, api.Solid{Prisms: base.Prisms[1:]}, api.Solid{Prisms: []api.Prism{base.Prisms[1], base.Prisms[0], base.Prisms[2]}})
	for i := range 3 {
		for _, change := range []func(p *api.Prism){
			func(p *api.Prism) { p.Region.Curves = p.Region.Curves[1:] },
			func(p *api.Prism) { p.Region.Nodes = slices.Repeat(p.Region.Nodes, 2) },
			func(p *api.Prism) { p.Region.Nodes = slices.Clone(p.Region.Nodes); p.Region.Nodes[0].Curve++ },
			func(p *api.Prism) { p.Lo.Num += "0" },
			func(p *api.Prism) { p.Lo.Den += "0" },
			func(p *api.Prism) { p.Hi.Num = "x" },
			func(p *api.Prism) { p.Hi.Den = "" },
			func(p *api.Prism) { p.Cut = !p.Cut },
			func(p *api.Prism) { p.Feature-- },
			func(p *api.Prism) { p.Feature = -1 << 63 },
			func(p *api.Prism) { p.Lo, p.Hi = p.Hi, p.Lo },
		} {
			s := api.Solid{Prisms: slices.Clone(base.Prisms)}
			change(&s.Prisms[i])
			list = append(list, s)
		}
	}
	list = append(list, sample.InvalidSolids()[:2]...)
	var texts []string
	for _, s := range list {
		texts = append(texts, text(s))
	}
	equal := 0
	for i, a := range list {
		for k, b := range list {
			want := texts[i] == texts[k]
			if want {
				equal++
			}
			if got := solid.Same(a, b); got != want {
				t.Errorf("Same(%.900s; %.900s) = %t", texts[i], texts[k], got)
			}
		}
		copied := api.Solid{Prisms: slices.Clone(a.Prisms)}
		if !solid.Same(a, copied) || !solid.Same(copied, a) {
			t.Errorf("Same(%.900s) with a copy is false", text(a))
		}
	}
	if equal < len(list) {
		t.Errorf("only %d pairs are equal", equal)
	}
	if !solid.Same(api.Solid{}, api.Solid{Prisms: []api.Prism{}}) || solid.Same(api.Solid{}, api.Solid{Prisms: make([]api.Prism, 1)}) {
		t.Error("Same of solids without prisms")
	}
	nothing := api.Solid{Prisms: []api.Prism{{Region: api.Region{Curves: []api.Curve{}, Nodes: []api.RegionNode{}}}}}
	if !solid.Same(api.Solid{Prisms: make([]api.Prism, 1)}, nothing) {
		t.Error("Same of prisms over nothing")
	}
}

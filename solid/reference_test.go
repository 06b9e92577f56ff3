package solid_test

import (
	"fmt"
	"slices"
	"strconv"

	"workpiece/api"
	"workpiece/arrange"
	"workpiece/rational"
	"workpiece/region"
	"workpiece/sample"
)

// refused is the outcome of a call that returns ErrSolid.
var refused = sample.Failure(api.ErrSolid)

// regionText returns a text of all fields of r, in which nil and empty are equal.
func regionText(r api.Region) string {
	out := ""
	for _, c := range r.Curves {
		out += fmt.Sprintf("%d %q %q %q; ", c.Kind, c.A, c.B, c.C)
	}
	return fmt.Sprintf("%s%v", out, r.Nodes)
}

// text returns a text of all fields of s, in which nil and empty are equal.
func text(s api.Solid) string {
	out := ""
	for _, p := range s.Prisms {
		out += fmt.Sprintf("%q to %q, %t, %d: %s\n", p.Lo, p.Hi, p.Cut, p.Feature, regionText(p.Region))
	}
	return out
}

// levelsText returns a text of levels.
func levelsText(list []api.Ratio) string { return fmt.Sprintf("%q", list) }

// regionOutcome returns the text of a resulting region, or the error.
func regionOutcome(r api.Region, err api.Errno) string {
	return sample.Outcome(regionText(r), len(r.Curves) == 0 && len(r.Nodes) == 0, err)
}

// outcome returns the text of a resulting solid, or the error.
func outcome(s api.Solid, err api.Errno) string {
	return sample.Outcome(text(s), len(s.Prisms) == 0, err)
}

// truth returns the text of what Contains returns.
func truth(value bool, err api.Errno) string {
	return sample.Outcome(strconv.FormatBool(value), !value, err)
}

// decision returns the text of what Equal or Empty returns.
func decision(holds bool, point [3]api.Ratio, err api.Errno) string {
	return sample.Outcome(fmt.Sprintf("%t %v", holds, point), !holds && point == [3]api.Ratio{}, err)
}

// calculated returns what calculate returns, or refused if something has no result.
func calculated(calculate func() string) string { return sample.Calculated(api.ErrSolid, calculate) }

// areFractions reports whether all of list are valid.
func areFractions(list ...api.Ratio) bool {
	return !slices.ContainsFunc(list, func(r api.Ratio) bool { return !rational.Valid(r) })
}

// reaches reports whether p reaches the height z.
func reaches(p api.Prism, z api.Ratio) bool {
	return rational.Compare(p.Lo, z) < 1 && rational.Compare(p.Hi, z) > -1
}

// wantContains returns the outcome of Contains.
func wantContains(s api.Solid, x, y, z api.Ratio) string {
	if !sample.IsSolid(s) || !areFractions(x, y, z) {
		return refused
	}
	return calculated(func() string {
		var columns []api.Prism
		for _, p := range s.Prisms {
			if reaches(p, z) && sample.Needed(region.Contains(p.Region, x, y)) {
				columns = append(columns, p)
			}
		}
		return strconv.FormatBool(len(columns) > 0 && !columns[len(columns)-1].Cut)
	})
}

// wantLevels returns the levels of the solids, of which some need not be valid.
func wantLevels(solids ...api.Solid) []api.Ratio {
	known := map[api.Ratio]bool{}
	var out []api.Ratio
	for _, s := range solids {
		if !sample.IsSolid(s) {
			continue
		}
		for _, p := range s.Prisms {
			for _, level := range []api.Ratio{p.Lo, p.Hi} {
				if known[level] {
					continue
				}
				known[level] = true
				below := 0
				for below < len(out) && rational.Compare(out[below], level) < 0 {
					below++
				}
				out = slices.Insert(out, below, level)
			}
		}
	}
	return out
}

// wantSection returns the section of the valid solid s at the height z. It panics if
// there is none.
func wantSection(s api.Solid, z api.Ratio) api.Region {
	var out api.Region
	for _, p := range s.Prisms {
		switch {
		case !reaches(p, z):
		case p.Cut:
			out = sample.Needed(region.Combine(api.RMinus, out, p.Region))
		default:
			out = sample.Needed(region.Combine(api.RUnion, out, p.Region))
		}
	}
	return out
}

// middle returns half of the sum of the ends of a slab. It panics if that is too large.
func middle(lo, hi api.Ratio) api.Ratio {
	return sample.Needed(rational.Div(sample.Needed(rational.Add(lo, hi)), number("2")))
}

// wantCombine returns the outcome of Combine.
func wantCombine(op int, a, b api.Solid) string {
	if op < 2 || op > 4 || !sample.IsSolid(a) || !sample.IsSolid(b) {
		return refused
	}
	return calculated(func() string {
		var out api.Solid
		levels := wantLevels(a, b)
		for i := range max(0, len(levels)-1) {
			z := middle(levels[i], levels[i+1])
			r := sample.Needed(region.Combine(op, wantSection(a, z), wantSection(b, z)))
			last := api.Prism{}
			if len(out.Prisms) > 0 {
				last = out.Prisms[len(out.Prisms)-1]
			}
			switch {
			case len(r.Nodes) == 0:
			case last.Hi == levels[i] && regionText(last.Region) == regionText(r):
				out.Prisms[len(out.Prisms)-1].Hi = levels[i+1]
			default:
				out.Prisms = append(out.Prisms, api.Prism{Region: r, Lo: levels[i], Hi: levels[i+1]})
			}
		}
		if len(out.Prisms) > 16 {
			return refused
		}
		return text(out)
	})
}

// wantMove returns the outcome of Move.
func wantMove(s api.Solid, dx, dy, dz api.Ratio) string {
	if !sample.IsSolid(s) || !areFractions(dx, dy, dz) {
		return refused
	}
	return calculated(func() string {
		var out api.Solid
		for _, p := range s.Prisms {
			out.Prisms = append(out.Prisms, api.Prism{
				Region: sample.Needed(region.Move(p.Region, dx, dy)),
				Lo:     sample.Needed(rational.Add(p.Lo, dz)), Hi: sample.Needed(rational.Add(p.Hi, dz)),
				Cut: p.Cut, Feature: p.Feature,
			})
		}
		return text(out)
	})
}

// wantEqual returns the outcome of Equal.
func wantEqual(a, b api.Solid) string {
	if !sample.IsSolid(a) || !sample.IsSolid(b) {
		return refused
	}
	return calculated(func() string {
		levels := wantLevels(a, b)
		for i := range max(0, len(levels)-1) {
			z := middle(levels[i], levels[i+1])
			same, x, y, err := arrange.Equal(wantSection(a, z), wantSection(b, z))
			sample.Needed(same, err)
			if !same {
				return decision(false, [3]api.Ratio{x, y, z}, api.OK)
			}
		}
		return decision(true, [3]api.Ratio{}, api.OK)
	})
}

package sample

import (
	"slices"
	"strings"

	"workpiece/api"
	"workpiece/rational"
	"workpiece/region"
)

// IsSolid reports whether s is valid, by the definition of the chapter on solids.
func IsSolid(s api.Solid) bool {
	for _, p := range s.Prisms {
		areValid := IsRegion(p.Region) && rational.Valid(p.Lo) && rational.Valid(p.Hi)
		if !areValid || rational.Compare(p.Lo, p.Hi) >= 0 || p.Feature < 0 || p.Feature > 1000000 {
			return false
		}
	}
	return len(s.Prisms) <= 16
}

// Shape returns the region with the text s: rectangle and its sides, disc with its
// center and radius, polygon and its corners, or the text of a curve. It panics if there
// is none.
func Shape(s string) api.Region {
	kind, rest, _ := strings.Cut(strings.TrimSpace(s), " ")
	if kind == "line" || kind == "circle" {
		return Region(s, Leaf(0))
	}
	l := Numbers(rest)
	switch kind {
	case "rectangle":
		return Needed(region.Rectangle(l[0], l[1], l[2], l[3]))
	case "disc":
		return Needed(region.Disc(l[0], l[1], l[2]))
	case "polygon":
		var corners [][2]api.Ratio
		for p := range slices.Chunk(l, 2) {
			corners = append(corners, [2]api.Ratio(p))
		}
		return Needed(region.Polygon(corners))
	}
	panic("not a shape: " + s)
}

// Solid returns the solid whose prisms have the texts that are the parts of s: add or
// cut, the ends, and the text of a shape, for example "add 0 3 disc 2 2 1". The features
// are 1, 2 and so on.
func Solid(s string) api.Solid {
	var out api.Solid
	for i, part := range strings.Split(s, ";") {
		if part == "" {
			continue
		}
		words := strings.SplitN(strings.TrimSpace(part), " ", 4)
		out.Prisms = append(out.Prisms, api.Prism{
			Region: Shape(words[3]), Lo: Number(words[1]), Hi: Number(words[2]), Cut: words[0] == "cut", Feature: i + 1,
		})
	}
	if !IsSolid(out) {
		panic("not a solid: " + s)
	}
	return out
}

// Shapes returns simple regions, of which many have curves and points in common.
func Shapes() []api.Region {
	out := []api.Region{{}}
	for _, s := range []string{
		"rectangle -1 -1 1 1", "rectangle -1 -1 0 1", "rectangle 0 -1 1 1", "rectangle -1 -1 2 2", "rectangle 2 2 3 3", "rectangle 0 0 1 2",
		"disc 0 0 1", "disc 1/2 0 1/2", "disc 1 1 1", "disc 0 0 3/2", "circle 1 0 2",
		"polygon -1 -1 1 -1 1 1", "polygon -1 -1 1 1 -1 1", "polygon 0 0 3 0 0 3", "line 1 0 0", "line 1 1 1",
	} {
		out = append(out, Shape(s))
	}
	return out
}

// Solids returns count valid solids of up to size prisms, which are over some of the
// regions, and begin and end at some of the heights.
func Solids(count int, size int, regions []api.Region, heights []api.Ratio, seed uint64) []api.Solid {
	var out []api.Solid
	for i := range count {
		var s api.Solid
		for own := seed + uint64(i)<<24; len(s.Prisms) < i%(size+1); own++ {
			s.Prisms = append(s.Prisms, prism(regions, heights, own))
		}
		out = append(out, s)
	}
	return out
}

// prism returns a valid prism for Solids. A third of them are cut.
func prism(regions []api.Region, heights []api.Ratio, seed uint64) api.Prism {
	random := Bytes(9, seed)
	pick := func(i int, count int) int { return (int(random[i]) + int(random[i+1])<<8) % count }
	lo, hi := heights[pick(0, len(heights))], heights[pick(2, len(heights))]
	switch order := rational.Compare(lo, hi); {
	case order == 0:
		return prism(regions, heights, seed+1<<50)
	case order > 0:
		lo, hi = hi, lo
	}
	return api.Prism{
		Region: regions[pick(4, len(regions))], Lo: lo, Hi: hi, Cut: random[6]%3 == 0, Feature: pick(7, 1<<16),
	}
}

// Heights returns so few heights that many solids have levels in common.
func Heights() []api.Ratio { return Numbers("0 1 2 3 4 -1 1/2 -1/2 7/3") }

// Points returns count points (x, y, z), of which x and y are from plane, and z from
// upright.
func Points(count int, plane []api.Ratio, upright []api.Ratio, seed uint64) [][3]api.Ratio {
	random := Bytes(6*count, seed)
	pick := func(i int, list []api.Ratio) api.Ratio {
		return list[(int(random[i])+int(random[i+1])<<8)%len(list)]
	}
	var out [][3]api.Ratio
	for i := range count {
		out = append(out, [3]api.Ratio{pick(6*i, plane), pick(6*i+2, plane), pick(6*i+4, upright)})
	}
	return out
}

// PointsNear returns count points with coordinates from -3 to 5, of which many are on
// curves of Shapes and at Heights.
func PointsNear(count int, seed uint64) [][3]api.Ratio {
	plane := Numbers("0 1 -1 2 -2 3 -3 1/2 -1/2 3/2 3/5 4/5 -3/5 7/4 1/3")
	return Points(count, plane, slices.Concat(Heights(), Numbers("5/2 1/4 -3/4 7/5 10/3 6 -5")), seed)
}

// InvalidSolids returns solids that are not valid: they have too many prisms, or one of
// them has an invalid region, ends that are invalid or not ascending, or a feature that
// cannot be one.
func InvalidSolids() []api.Solid {
	valid := Solid("add 0 3 rectangle 0 0 4 4; cut 1 5 disc 2 2 1; add -1/2 1/3 polygon 0 0 3 0 0 3")
	out := []api.Solid{{Prisms: make([]api.Prism, 1)}, {Prisms: make([]api.Prism, 17)}}
	for _, count := range []int{6, 1 << 10} {
		out = append(out, api.Solid{Prisms: slices.Repeat(valid.Prisms, count)})
	}
	out = append(out, api.Solid{Prisms: slices.Repeat(valid.Prisms, 6)[1:]})
	changed := func(change func(p *api.Prism)) {
		s := api.Solid{Prisms: slices.Clone(valid.Prisms)}
		change(&s.Prisms[len(out)%3])
		out = append(out, s)
	}
	for _, r := range InvalidRegions() {
		changed(func(p *api.Prism) { p.Region = r })
	}
	for _, wrong := range InvalidFractions() {
		changed(func(p *api.Prism) { p.Lo = wrong })
		changed(func(p *api.Prism) { p.Hi = wrong })
	}
	for _, words := range []string{"0 0", "1 0", "1/3 1/3", "1/3 1/4", "-1/2 -1", "0 -1/1000000", Nines() + " 1"} {
		ends := Numbers(words)
		changed(func(p *api.Prism) { p.Lo, p.Hi = ends[0], ends[1] })
	}
	for _, id := range []int{-1, 1000001, 1 << 40, -1 << 63, 1<<63 - 1, -1000000} {
		changed(func(p *api.Prism) { p.Feature = id })
	}
	return out
}

package brep_test

import (
	"slices"

	"workpiece/api"
	"workpiece/arrange"
	"workpiece/brep"
	"workpiece/rational"
	"workpiece/sample"
	"workpiece/solid"
)

// fraction returns the fraction with the text s.
func fraction(s string) api.Ratio { return sample.Number(s) }

// few are fractions of which many sums and products are equal, so that points are often
// on curves, and curves often meet.
var few = sample.Numbers("0 1 -1 2 -2 3 -3 4 5 1/2 -1/2 3/2 25 9/4 1/4")

// drilled is a box with a hole, the solid of the examples.
func drilled() api.Solid {
	return sample.Solid("add 0 3 rectangle 0 0 4 4; cut 1 5 disc 2 2 1")
}

// shaped returns count solids of up to size prisms over simple shapes.
func shaped(count int, size int, seed uint64) []api.Solid {
	return sample.Solids(count, size, sample.Shapes(), sample.Heights(), seed)
}

// known returns solids that are made by hand: with curves that have the same points,
// parts that touch, holes, prisms without effect or over nothing, and faces that are at
// several heights.
func known() []api.Solid {
	out := []api.Solid{{}, drilled(), {Prisms: []api.Prism{{Lo: fraction("0"), Hi: fraction("1")}}}}
	for _, s := range []string{
		"add 0 1 line 1 0 0", "add 0 1 line -1 0 0; add 0 2 line 1 0 0", "add 0 1 line 0 -1 2; cut 0 1 line 0 1 3", "add 0 1 line -1 2 3; add 1 2 line 1 -2 -3", "add 0 1 circle 0 0 2; cut 0 2 circle 0 0 1; add 1 2 circle 3 0 3",
		"add 0 1 rectangle 0 0 2 2; add 0 1 rectangle 2 0 4 2", "add 0 1 rectangle 0 0 2 2; add 0 2 rectangle 2 0 4 2", "add 0 1 rectangle 0 0 2 2; add 1 2 rectangle 0 0 2 2", "add 0 2 rectangle 0 0 2 2; cut 0 2 rectangle 0 0 2 2", "add 0 1 rectangle 0 0 2 2; add 0 1 rectangle 0 2 2 4",
		"add 0 3 rectangle 0 0 4 4; cut 1 2 rectangle 1 1 3 3", "add 0 3 rectangle 0 0 4 4; cut 1 2 rectangle 1 -1 3 5; add 1 3/2 rectangle 1 0 2 4",
		"add 0 1 disc 0 0 2; cut 0 1 rectangle -1 -3 1 3", "add 0 1 rectangle -9 -1 9 1; cut 0 1 disc 0 0 2; cut 0 1 rectangle 0 -1 9 1", "add 0 2 disc 0 0 1; add 1 3 disc 2 0 1; cut 0 3 disc 1 0 1/2", "add 0 1 disc 0 0 2; cut 0 1 disc 1 0 1",
		"add 0 1 rectangle 0 0 2 4; cut 0 1 disc 4 2 1", "add 0 1 rectangle 0 0 2 4; add 1/2 3/2 disc 1 2 1", "cut 0 1 line 1 -1 5; cut 0 1 line 1 1 5; add 0 1 line 1 0 10", "add 0 1 polygon 0 0 3 0 0 3; add 0 1 polygon 3 0 3 3 0 3", "add 0 1 polygon 0 0 3 0 0 3; cut 1/2 2 polygon 0 0 2 0 0 2", "add 0 1 circle 0 0 2; add 0 1 line 1 1 2",
	} {
		out = append(out, sample.Solid(s))
	}
	return out
}

// solids returns the known solids, count ones over simple shapes, and some over formulas.
func solids(count int, seed uint64) []api.Solid {
	formulas := sample.Solids(12, 3, sample.Regions(6, few, seed), sample.Heights(), seed)
	return slices.Concat(known(), shaped(count, 4, seed), formulas)
}

// A model is a solid with its representation.
type model struct {
	api.Solid
	rep api.Brep
}

// models returns those of the solids that have a representation, with not too many cells.
func models(list []api.Solid) []model {
	var out []model
	for _, s := range list {
		if b, err := brep.Build(s); err == api.OK && len(b.Cells) <= 80 {
			out = append(out, model{s, b})
		}
	}
	return out
}

// representations returns those of models.
func representations(list []api.Solid) []api.Brep {
	var out []api.Brep
	for _, m := range models(list) {
		out = append(out, m.rep)
	}
	return out
}

// built returns the representation of s. It panics if there is none.
func built(s api.Solid) api.Brep { return sample.Needed(brep.Build(s)) }

// canonical returns the canonical representation for b. It panics if there is none.
func canonical(b api.Brep) api.Brep { return sample.Needed(brep.Canonical(b)) }

// clone returns a copy of b.
func clone(b api.Brep) api.Brep {
	out := api.Brep{Levels: slices.Clone(b.Levels), Curves: slices.Clone(b.Curves), Cells: slices.Clone(b.Cells)}
	for _, s := range b.Slabs {
		out.Slabs = append(out.Slabs, api.Slab{Inside: slices.Clone(s.Inside)})
	}
	return out
}

// eachList calls change with Inside of each slab of b, and keeps what it returns.
func eachList(b *api.Brep, change func(inside []bool) []bool) {
	for i := range b.Slabs {
		b.Slabs[i].Inside = change(b.Slabs[i].Inside)
	}
}

// changed returns a copy of b that is changed in some way, and stays well formed. It need
// not be the representation of anything.
func changed(b api.Brep, seed uint64) api.Brep {
	out := clone(b)
	random := []byte(sample.Bytes(40, seed))
	pick := func(i int, count int) int { return (int(random[i]) + int(random[i+1])<<8) % max(count, 1) }
	at := pick(0, len(out.Cells))
	if len(out.Cells) == 0 {
		return out
	}
	switch random[2] % 14 {
	case 0:
		eachList(&out, func(list []bool) []bool { list[at] = !list[at]; return list })
	case 1:
		for i, s := range out.Slabs {
			bits := sample.Bytes(len(s.Inside), seed+uint64(i))
			for k := range s.Inside {
				s.Inside[k] = bits[k]%3 == 0
			}
		}
	case 2:
		order := sample.Shuffled(len(out.Cells), seed)
		out.Cells = sample.Reordered(out.Cells, order)
		eachList(&out, func(list []bool) []bool { return sample.Reordered(list, order) })
	case 3:
		for i := range out.Cells {
			out.Cells[i].Strip = pick(3+i%30, 4)
		}
	case 4:
		out.Cells = slices.Delete(out.Cells, at, at+1)
		eachList(&out, func(list []bool) []bool { return slices.Delete(list, at, at+1) })
	case 5:
		other := pick(3, len(out.Cells))
		out.Cells = slices.Insert(out.Cells, at, out.Cells[other])
		eachList(&out, func(list []bool) []bool { return slices.Insert(list, at, list[other]) })
	case 6:
		out.Cells[at].Y = few[pick(3, len(few))]
	case 7:
		out.Cells[at].X = few[pick(3, len(few))]
	case 8:
		out.Curves = sample.Reordered(out.Curves, sample.Shuffled(len(out.Curves), seed))
	case 9:
		if len(out.Curves) > 0 {
			out.Curves = slices.Delete(out.Curves, 0, 1)
		}
	case 10:
		if c := sample.Curves(1, few, seed)[0]; len(out.Curves) < 20 && !slices.Contains(out.Curves, c) {
			out.Curves = slices.Insert(out.Curves, pick(3, len(out.Curves)), c)
		}
	case 11:
		strips := []int{-1 << 63, 1<<63 - 1, -1, 0, out.Cells[at].Strip + 1}
		out.Cells[at].Strip = strips[pick(3, len(strips))]
	case 12:
		wrong := sample.InvalidFractions()
		*[]*api.Ratio{&out.Cells[at].X, &out.Cells[at].Y}[random[3]%2] = wrong[pick(4, len(wrong))]
	case 13:
		out.Cells[at].Index = pick(3, 9) - 4
	}
	return out
}

// handmade returns count well-formed representations that are not those of solids: from
// list, changed up to three times.
func handmade(list []api.Brep, count int, seed uint64) []api.Brep {
	var out []api.Brep
	for i := range count {
		b := list[i%len(list)]
		for k := range 1 + i/len(list)%3 {
			b = changed(b, seed+uint64(i)<<8+uint64(k))
		}
		out = append(out, b)
	}
	return out
}

// large returns count well-formed representations with numbers of many digits, so that
// much is too large. Their cells are those of their curves, if there are some, and some of
// them are moved.
func large(count int, seed uint64) []api.Brep {
	var out []api.Brep
	for i := range count {
		own := seed + uint64(i)<<20
		numbers := slices.Concat(few[:5], sample.Fractions(12, []int{8, 15, 22, 30, 45, 70}[i%6], own))
		b := api.Brep{Levels: few[:2], Curves: sample.Curves(1+i%3, numbers, own), Slabs: make([]api.Slab, 1)}
		cells, err := arrange.Cells(b.Curves)
		if err != api.OK {
			for k, p := range sample.Points(6, numbers, numbers, own) {
				cells = append(cells, api.Cell{X: p[0], Y: p[1], Strip: k / 2})
			}
		}
		random := sample.Bytes(len(cells)+2, own)
		if at := int(random[0]) % (len(cells) * 2); at < len(cells) {
			cells[at].X = sample.Fractions(1, 150, own)[0]
		}
		if at := int(random[1]) % (len(cells) * 2); at < len(cells) {
			cells[at].Y = sample.Fractions(1, 190, own)[0]
		}
		b.Cells = cells
		for k := range cells {
			b.Slabs[0].Inside = append(b.Slabs[0].Inside, random[k+2]%2 == 0)
		}
		out = append(out, b)
	}
	return out
}

// malformed returns representations that are not well formed.
func malformed() []api.Brep {
	out := []api.Brep{
		{Slabs: []api.Slab{{}}}, {Levels: few[:1], Slabs: []api.Slab{{}}}, {Levels: few[:2]}, {Levels: few[:2], Slabs: []api.Slab{{}, {}}}, {Levels: few[:2], Slabs: []api.Slab{{Inside: []bool{false}}}},
		{Curves: make([]api.Curve, 1)}, {Curves: sample.Curves(21, few, 5)}, {Curves: slices.Repeat(sample.Curves(1, few, 5), 2)}, {Levels: make([]api.Ratio, 1)},
	}
	base := built(sample.Solid("add 0 3 rectangle 0 0 4 4; cut 1 5 disc 2 2 1; add 7 9 disc 0 0 1"))
	change := func(how func(b *api.Brep)) {
		b := clone(base)
		how(&b)
		out = append(out, b)
	}
	for i := range base.Levels {
		change(func(b *api.Brep) { b.Levels = slices.Delete(b.Levels, i, i+1) })
		change(func(b *api.Brep) { b.Levels = slices.Insert(b.Levels, i, b.Levels[i]) })
		change(func(b *api.Brep) { b.Levels[i] = b.Levels[(i+1)%len(b.Levels)] })
		change(func(b *api.Brep) { b.Levels[i] = b.Levels[(i+2)%len(b.Levels)] })
		for _, wrong := range sample.InvalidFractions() {
			change(func(b *api.Brep) { b.Levels[i] = wrong })
		}
	}
	for i := range base.Slabs {
		change(func(b *api.Brep) { b.Slabs = slices.Delete(b.Slabs, i, i+1) })
		change(func(b *api.Brep) { b.Slabs = slices.Insert(b.Slabs, i, b.Slabs[i]) })
		change(func(b *api.Brep) { b.Slabs[i].Inside = b.Slabs[i].Inside[1:] })
		change(func(b *api.Brep) { b.Slabs[i].Inside = append(b.Slabs[i].Inside, false) })
		change(func(b *api.Brep) { b.Slabs[i].Inside = nil })
	}
	for i := range base.Curves {
		change(func(b *api.Brep) { b.Curves = append(b.Curves, b.Curves[i]) })
		change(func(b *api.Brep) { b.Curves[i] = b.Curves[(i+1)%len(b.Curves)] })
	}
	for k, wrong := range sample.InvalidCurves() {
		change(func(b *api.Brep) { b.Curves[k%len(b.Curves)] = wrong })
	}
	change(func(b *api.Brep) {
		b.Curves = append(b.Curves, sample.Curves(15, sample.Numbers("11 13 17 1/19"), 5)...)
	})
	change(func(b *api.Brep) { b.Cells = b.Cells[1:] })
	change(func(b *api.Brep) { b.Cells = append(b.Cells, b.Cells[0]) })
	change(func(b *api.Brep) { b.Cells = nil })
	return out
}

// transposedSolid returns s with x and y exchanged.
func transposedSolid(s api.Solid) api.Solid {
	var out api.Solid
	for _, p := range s.Prisms {
		p.Region = api.Region{Curves: wantTransposed(p.Region.Curves), Nodes: slices.Clone(p.Region.Nodes)}
		out.Prisms = append(out.Prisms, p)
	}
	return out
}

// middles returns the middles of the slabs of s.
func middles(s api.Solid) []api.Ratio {
	var out []api.Ratio
	levels := solid.Levels(s)
	for i := 1; i < len(levels); i++ {
		out = append(out, half(levels[i-1], levels[i]))
	}
	return out
}

// cellsOf returns the cells of curves. It panics if there is an error.
func cellsOf(curves []api.Curve) []api.Cell { return sample.Needed(arrange.Cells(curves)) }

// half returns half of the sum of a and b.
func half(a, b api.Ratio) api.Ratio {
	return sample.Needed(rational.Div(sample.Needed(rational.Add(a, b)), fraction("2")))
}

package cluster_test

import (
	"workpiece/api"
	"workpiece/sample"
)

// tie returns a constraint of a kind on the given points.
func tie(kind int, points ...int) api.Constraint {
	l := append(points, 0, 0, 0)
	c := api.Constraint{Kind: kind, P: l[0], Q: l[1], R: l[2], S: l[3]}
	switch kind {
	case api.CFix:
		c.X, c.Y = sample.Number("1"), sample.Number("-2")
	case api.CDistance:
		c.Value = sample.Number("5")
	}
	return c
}

// chains returns count sketches most of whose points can be placed: each point is
// tied twice to points before it, in some order of the points, and of the
// constraints.
func chains(count int, seed uint64) []api.Sketch {
	var out []api.Sketch
	for i := range count {
		n := 2 + i%(api.MaxPoints-1)
		own := seed + uint64(i)<<8
		order := sample.Shuffled(n, own)
		var list []api.Constraint
		for k := range 2 * n {
			list = append(list, sample.Renumbered(sample.Newest(k/2, own+uint64(k)), order))
		}
		out = append(out, sample.Sketch(n, sample.Reordered(list, sample.Shuffled(len(list), own))...))
	}
	return out
}

// sketches returns count valid sketches of all sizes, of which many points can be
// placed, and others cannot.
func sketches(count int, seed uint64) []api.Sketch {
	return append(sample.Sketches(count/2, seed), chains(count/2, seed)...)
}

// chosen returns a function that chooses one of several steps.
func chosen(seed uint64) func(all []api.Step) api.Step {
	return func(all []api.Step) api.Step {
		seed++
		return all[int(sample.Bytes(1, seed)[0])%len(all)]
	}
}

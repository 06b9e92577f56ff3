package sketch_test

import (
	"slices"
	"strconv"

	"workpiece/api"
	"workpiece/sample"
	"workpiece/tower"
)

// number returns the fraction with the text s.
func number(s string) api.Ratio { return sample.Number(s) }

// pairs returns the points whose coordinates are the words of s.
func pairs(s string) [][2]api.Ratio {
	var out [][2]api.Ratio
	for p := range slices.Chunk(sample.Numbers(s), 2) {
		out = append(out, [2]api.Ratio(p))
	}
	return out
}

// grid returns count points with integer coordinates, none of which is farther
// from 0 than most, so that constraints often hold.
func grid(count int, most int, seed uint64) [][2]api.Ratio {
	random := sample.Bytes(2*count, seed)
	coordinate := func(b byte) api.Ratio { return number(strconv.Itoa(int(b)%(2*most+1) - most)) }
	var out [][2]api.Ratio
	for i := range count {
		out = append(out, [2]api.Ratio{coordinate(random[2*i]), coordinate(random[2*i+1])})
	}
	return out
}

// elementsOf returns the points as elements of t.
func elementsOf(t api.Tower, points [][2]api.Ratio) [][2][]api.Ratio {
	var out [][2][]api.Ratio
	for _, p := range points {
		x, errX := tower.FromRatio(t, p[0])
		y, errY := tower.FromRatio(t, p[1])
		if errX != api.OK || errY != api.OK {
			panic("no elements of " + text(p[:]))
		}
		out = append(out, [2][]api.Ratio{x, y})
	}
	return out
}

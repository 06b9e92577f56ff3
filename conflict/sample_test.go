package conflict_test

import (
	"strconv"

	"workpiece/api"
	"workpiece/sample"
)

// crowded returns count valid sketches with up to 10 constraints, of which most contain
// more constraints than the points that they place can bear.
func crowded(count int, seed uint64) []api.Sketch {
	var out []api.Sketch
	for i, s := range sample.Constructions(count, seed) {
		s.Constraints = s.Constraints[:min(len(s.Constraints), api.MaxConflict-i%3)]
		for k := 0; k < 1+i%4 && len(s.Constraints) < api.MaxConflict; k++ {
			s.Constraints = append(s.Constraints, sample.Constraint(s.Points, seed+uint64(i)<<16+uint64(k)))
		}
		out = append(out, sample.Mixed(s, seed+uint64(i)))
	}
	return out
}

// fuller returns f with further constraints that hold in its places, so that it has up
// to most constraints.
func fuller(f sample.Figure, most int, seed uint64) sample.Figure {
	for k := 0; k < 60 && len(f.Constraints) < most; k++ {
		if c, ok := sample.Fitted(sample.Constraint(f.Points, seed+uint64(k)), f.Places); ok {
			f.Constraints = append(f.Constraints, c)
		}
	}
	return f
}

// grid returns count points with integer coordinates, none of which is farther from 0
// than most, so that constraints often hold, and derivatives are often 0.
func grid(count int, most int, seed uint64) [][2]api.Ratio {
	random := sample.Bytes(2*count, seed)
	coordinate := func(b byte) api.Ratio { return sample.Number(strconv.Itoa(int(b)%(2*most+1) - most)) }
	var out [][2]api.Ratio
	for i := range count {
		out = append(out, [2]api.Ratio{coordinate(random[2*i]), coordinate(random[2*i+1])})
	}
	return out
}

// pairs returns the points or the velocity whose coordinates are the words of s.
func pairs(s string) [][2]api.Ratio {
	list := sample.Numbers(s)
	var out [][2]api.Ratio
	for i := 0; i < len(list); i += 2 {
		out = append(out, [2]api.Ratio{list[i], list[i+1]})
	}
	return out
}

// A placed sketch is one with points at which its matrix is examined.
type placed struct {
	api.Sketch
	points [][2]api.Ratio
}

// general returns sketches of all sizes with points in general places, whose coordinates
// have up to length digits.
func general(count int, length int, seed uint64) []placed {
	var out []placed
	for i, s := range sample.Sketches(count, seed) {
		out = append(out, placed{s, sample.Places(s.Points, length, seed+uint64(i))})
	}
	return out
}

// special returns sketches of all sizes with points in such places that constraints
// hold, or that derivatives are 0.
func special(count int, seed uint64) []placed {
	var out []placed
	for i, s := range sample.Sketches(count, seed) {
		out = append(out, placed{s, grid(s.Points, 1+i%3, seed+uint64(i))})
	}
	for i, f := range sample.Figures(count, seed) {
		f = fuller(f, i%17, seed+uint64(i)<<20)
		out = append(out, placed{f.Sketch, f.Places})
	}
	return out
}

// bulky returns sketches with points whose coordinates have many digits, and with
// constraints whose derivatives depend on them.
func bulky(count int, seed uint64) []placed {
	var out []placed
	for i := range count {
		s := sample.Sketch(5 + i%4)
		for k := seed; len(s.Constraints) < 5+i/4%10; k++ {
			if c := sample.Constraint(s.Points, uint64(i)<<32+k<<8); c.Kind != api.CFix {
				s.Constraints = append(s.Constraints, c)
			}
		}
		out = append(out, placed{s, sample.Places(s.Points, 8+i%5, seed+uint64(i))})
	}
	return out
}

package sketch_test

import (
	"slices"
	"strconv"

	"workpiece/api"
	"workpiece/rational"
	"workpiece/sample"
	"workpiece/tower"
)

// number returns the fraction with the text s.
func number(s string) api.Ratio { return sample.Number(s) }

// pairs returns the points whose coordinates are the words of s.
func pairs(s string) [][2]api.Ratio {
	var out [][2]api.Ratio
	for p := range slices.Chunk(sample.Numbers(s), 2) {
		out = append(out, [2]api.Ratio(p))
	}
	return out
}

// constraints returns all valid constraints for n points, with different values.
func constraints(n int) []api.Constraint {
	numbers := sample.Numbers("0 1 2 -1 5 1/2 -3/2 3 999999999999/999999999998")
	var out []api.Constraint
	for kind := api.CFix; kind <= api.CEqual; kind++ {
		for i := range n * n * n * n {
			c := api.Constraint{Kind: kind, P: i % n, Q: i / n % n, R: i / n / n % n, S: i / n / n / n}
			value := numbers[len(out)%len(numbers)]
			if kind == api.CFix {
				c.X, c.Y = value, numbers[(len(out)+i/3)%len(numbers)]
			}
			if kind == api.CDistance {
				c.Value = value
				if rational.Compare(value, number("0")) <= 0 {
					c.Value = number("5/2")
				}
			}
			if isValid(c, n) {
				out = append(out, c)
			}
		}
	}
	return out
}

// grid returns count points with integer coordinates, none of which is farther
// from 0 than most, so that constraints often hold.
func grid(count int, most int, seed uint64) [][2]api.Ratio {
	random := sample.Bytes(2*count, seed)
	coordinate := func(b byte) api.Ratio { return number(strconv.Itoa(int(b)%(2*most+1) - most)) }
	var out [][2]api.Ratio
	for i := range count {
		out = append(out, [2]api.Ratio{coordinate(random[2*i]), coordinate(random[2*i+1])})
	}
	return out
}

// places returns count points whose coordinates have up to length digits, at most
// 12.
func places(count int, length int, seed uint64) [][2]api.Ratio {
	nums, dens := sample.Integers(2*count, length, seed), sample.Integers(2*count, length, seed+1<<32)
	coordinate := func(i int) api.Ratio { return sample.Fraction(nums[i], dens[i]) }
	var out [][2]api.Ratio
	for i := range count {
		out = append(out, [2]api.Ratio{coordinate(2 * i), coordinate(2*i + 1)})
	}
	return out
}

// sketches returns valid sketches of all sizes.
func sketches(count int, seed uint64) []api.Sketch {
	var out []api.Sketch
	for i := range count {
		s := api.Sketch{Points: 1 + i%api.MaxPoints}
		all := constraints(min(s.Points, 4))
		random := sample.Bytes(3*api.MaxConstraints, seed+uint64(i)<<8)
		for k := range i / 3 % (api.MaxConstraints + 1) {
			c := all[(int(random[3*k])<<8+int(random[3*k+1]))%len(all)]
			s.Constraints = append(s.Constraints, shifted(c, int(random[3*k+2])%max(1, s.Points-3)))
		}
		out = append(out, s)
	}
	return out
}

// shifted returns c for points with indices that are greater by n.
func shifted(c api.Constraint, n int) api.Constraint {
	fields := []*int{&c.P, &c.Q, &c.R, &c.S}
	for _, i := range fields[:len(uses(c))] {
		*i += n
	}
	return c
}

// strangers returns constraints that are not valid for any number of points up to
// 8.
func strangers() []api.Constraint {
	one, long := number("1"), api.Ratio{Num: "1000000000000", Den: "1"}
	out := []api.Constraint{{}, {Kind: -1}, {Kind: 9}, {Kind: 1 << 62}, {Kind: -1 << 63}, {Kind: 9, Q: 1}, {X: one, Y: one}, {Kind: api.CFix}, {Kind: api.CFix, X: one}, {Kind: api.CFix, Y: one}, {Kind: api.CFix, P: 8, X: one, Y: one}, {Kind: api.CFix, P: -1, X: one, Y: one}, {Kind: api.CFix, X: long, Y: one}, {Kind: api.CFix, X: one, Y: long}, {Kind: api.CDistance, Q: 1}, {Kind: api.CDistance, Q: 1, Value: long}, {Kind: api.CDistance, Q: 1, Value: number("0")}, {Kind: api.CDistance, Q: 1, Value: number("-1")}, {Kind: api.CDistance, Q: 1, Value: number("-1/3")}}
	for kind := api.CFix; kind <= api.CEqual; kind++ {
		all := slices.DeleteFunc(constraints(4), func(c api.Constraint) bool { return c.Kind != kind })
		c := all[len(all)/2]
		for i := range 4 {
			for _, wrong := range []int{-1, 8, 1 << 40, -1 << 63, 1<<63 - 1} {
				changed := c
				*[]*int{&changed.P, &changed.Q, &changed.R, &changed.S}[i] = wrong
				out = append(out, changed)
			}
		}
		if kind != api.CFix {
			same := c
			same.P = same.Q
			out = append(out, same)
		}
		for i := range 3 {
			for _, wrong := range append(sample.InvalidFractions(), long, number("-1")) {
				changed := c
				*[]*api.Ratio{&changed.X, &changed.Y, &changed.Value}[i] = wrong
				if !isValid(changed, 8) {
					out = append(out, changed)
				}
			}
		}
	}
	return out
}

// elementsOf returns the points as elements of t.
func elementsOf(t api.Tower, points [][2]api.Ratio) [][2][]api.Ratio {
	var out [][2][]api.Ratio
	for _, p := range points {
		x, errX := tower.FromRatio(t, p[0])
		y, errY := tower.FromRatio(t, p[1])
		if errX != api.OK || errY != api.OK {
			panic("no elements of " + text(p[:]))
		}
		out = append(out, [2][]api.Ratio{x, y})
	}
	return out
}

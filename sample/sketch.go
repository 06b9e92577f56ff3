package sample

import (
	"slices"
	"strings"

	"workpiece/api"
	"workpiece/rational"
)

// IsShort reports whether r is short.
func IsShort(r api.Ratio) bool {
	return rational.Valid(r) && len(strings.Trim(r.Num, "-")) <= 12 && len(r.Den) <= 12
}

// Indices returns the indices that a constraint of the kind of c has, in order.
func Indices(c api.Constraint) []int {
	all := []int{c.P, c.Q, c.R, c.S}
	switch c.Kind {
	case 1:
		return all[:1]
	case 2, 3, 4:
		return all[:2]
	case 5, 7, 8:
		return all[:3]
	case 6:
		return all
	}
	return nil
}

// IsConstraint reports whether c is valid for n points, by the table of the chapter
// on sketches.
func IsConstraint(c api.Constraint, n int) bool {
	in := func(indices ...int) bool {
		return !slices.ContainsFunc(indices, func(i int) bool { return i < 0 || i >= n })
	}
	different := c.P != c.Q && c.P != c.R && c.Q != c.R
	switch c.Kind {
	case 1:
		return c == api.Constraint{Kind: 1, P: c.P, X: c.X, Y: c.Y} && in(c.P) && IsShort(c.X) && IsShort(c.Y)
	case 2:
		isPositive := c.Value.Num != "0" && !strings.HasPrefix(c.Value.Num, "-")
		return c == api.Constraint{Kind: 2, P: c.P, Q: c.Q, Value: c.Value} && in(c.P, c.Q) && c.P != c.Q && IsShort(c.Value) && isPositive
	case 3, 4:
		return c == api.Constraint{Kind: c.Kind, P: c.P, Q: c.Q} && in(c.P, c.Q) && c.P != c.Q
	case 5, 7, 8:
		return c == api.Constraint{Kind: c.Kind, P: c.P, Q: c.Q, R: c.R} && in(c.P, c.Q, c.R) && different
	case 6:
		return c == api.Constraint{Kind: 6, P: c.P, Q: c.Q, R: c.R, S: c.S} && in(c.P, c.Q, c.R, c.S) && c.P != c.Q && c.R != c.S
	}
	return false
}

// IsSketch reports whether s is valid, by the definition of the chapter on sketches.
func IsSketch(s api.Sketch) bool {
	isInvalid := func(c api.Constraint) bool { return !IsConstraint(c, s.Points) }
	return s.Points >= 1 && s.Points <= 8 && len(s.Constraints) <= 16 && !slices.ContainsFunc(s.Constraints, isInvalid)
}

// values are positions and lengths in constraints.
var values = [...]struct{ position, length api.Ratio }{
	{api.Ratio{Num: "0", Den: "1"}, api.Ratio{Num: "5", Den: "2"}},
	{api.Ratio{Num: "1", Den: "1"}, api.Ratio{Num: "1", Den: "1"}},
	{api.Ratio{Num: "2", Den: "1"}, api.Ratio{Num: "2", Den: "1"}},
	{api.Ratio{Num: "-1", Den: "1"}, api.Ratio{Num: "3", Den: "4"}},
	{api.Ratio{Num: "5", Den: "1"}, api.Ratio{Num: "5", Den: "1"}},
	{api.Ratio{Num: "1", Den: "2"}, api.Ratio{Num: "1", Den: "2"}},
	{api.Ratio{Num: "-3", Den: "2"}, api.Ratio{Num: "13", Den: "1"}},
	{api.Ratio{Num: "3", Den: "1"}, api.Ratio{Num: "3", Den: "1"}},
	{api.Ratio{Num: "999999999999", Den: "999999999998"}, api.Ratio{Num: "999999999999", Den: "999999999998"}},
}

// constraint returns a constraint with the kind and the indices, and with values that
// the seed chooses.
func constraint(kind int, indices [4]int, seed int) api.Constraint {
	c := api.Constraint{Kind: kind, P: indices[0], Q: indices[1], R: indices[2], S: indices[3]}
	switch kind {
	case api.CFix:
		c.X, c.Y = values[seed%len(values)].position, values[(seed+c.P)%len(values)].position
	case api.CDistance:
		c.Value = values[seed%len(values)].length
	}
	return c
}

// Constraints returns all valid constraints for n points, with different values.
func Constraints(n int) []api.Constraint {
	var out []api.Constraint
	for kind := api.CFix; kind <= api.CEqual; kind++ {
		for i := range n * n * n * n {
			c := constraint(kind, [4]int{i % n, i / n % n, i / n / n % n, i / n / n / n}, len(out))
			if IsConstraint(c, n) {
				out = append(out, c)
			}
		}
	}
	return out
}

// Constraint returns a valid constraint for n points.
func Constraint(n int, seed uint64) api.Constraint {
	for ; ; seed += 1 << 40 {
		random := Bytes(6, seed)
		c := api.Constraint{Kind: 1 + int(random[0])%8}
		var indices [4]int
		for k := range Indices(c) {
			indices[k] = int(random[1+k]) % n
		}
		if c = constraint(c.Kind, indices, int(random[5])); IsConstraint(c, n) {
			return c
		}
	}
}

// Newest returns a valid constraint for the points 0 to p that uses p.
func Newest(p int, seed uint64) api.Constraint {
	for ; ; seed += 1 << 48 {
		if c := Constraint(p+1, seed); slices.Contains(Indices(c), p) {
			return c
		}
	}
}

// Renumbered returns c with the numbers at the indices of its points instead of
// these.
func Renumbered(c api.Constraint, numbers []int) api.Constraint {
	fields := []*int{&c.P, &c.Q, &c.R, &c.S}
	for k, i := range Indices(c) {
		*fields[k] = numbers[i]
	}
	return c
}

// Sketches returns count valid sketches of all sizes.
func Sketches(count int, seed uint64) []api.Sketch {
	var out []api.Sketch
	for i := range count {
		s := api.Sketch{Points: 1 + i%api.MaxPoints}
		for k := range i / 3 % (api.MaxConstraints + 1) {
			s.Constraints = append(s.Constraints, Constraint(s.Points, seed+uint64(i)<<8+uint64(k)))
		}
		out = append(out, s)
	}
	return out
}

// InvalidConstraints returns constraints that are not valid for any number of points
// up to 8.
func InvalidConstraints() []api.Constraint {
	one, long := Number("1"), api.Ratio{Num: "1000000000000", Den: "1"}
	out := []api.Constraint{{}, {Kind: -1}, {Kind: 9}, {Kind: 1 << 62}, {Kind: -1 << 63}, {Kind: 9, Q: 1}, {X: one, Y: one}, {Kind: api.CFix}, {Kind: api.CFix, X: one}, {Kind: api.CFix, Y: one}, {Kind: api.CFix, P: 8, X: one, Y: one}, {Kind: api.CFix, P: -1, X: one, Y: one}, {Kind: api.CFix, X: long, Y: one}, {Kind: api.CFix, X: one, Y: long}, {Kind: api.CDistance, Q: 1}, {Kind: api.CDistance, Q: 1, Value: long}, {Kind: api.CDistance, Q: 1, Value: Number("0")}, {Kind: api.CDistance, Q: 1, Value: Number("-1")}, {Kind: api.CDistance, Q: 1, Value: Number("-1/3")}}
	for kind := api.CFix; kind <= api.CEqual; kind++ {
		all := slices.DeleteFunc(Constraints(4), func(c api.Constraint) bool { return c.Kind != kind })
		c := all[len(all)/2]
		for i := range 4 {
			for _, wrong := range []int{-1, 8, 1 << 40, -1 << 63, 1<<63 - 1} {
				changed := c
				*[]*int{&changed.P, &changed.Q, &changed.R, &changed.S}[i] = wrong
				out = append(out, changed)
			}
		}
		if kind != api.CFix {
			same := c
			same.P = same.Q
			out = append(out, same)
		}
		for i := range 3 {
			for _, wrong := range append(InvalidFractions(), long, Number("-1")) {
				changed := c
				*[]*api.Ratio{&changed.X, &changed.Y, &changed.Value}[i] = wrong
				if !IsConstraint(changed, 8) {
					out = append(out, changed)
				}
			}
		}
	}
	return out
}

// InvalidSketches returns sketches that are not valid: they have too few or too many
// points or constraints, or one of these is not valid.
func InvalidSketches() []api.Sketch {
	fine := constraint(api.CVertical, [4]int{0, 1}, 0)
	var out []api.Sketch
	for _, points := range []int{-1 << 63, -1, 0, 9, 1 << 40, 1<<63 - 1} {
		out = append(out, api.Sketch{Points: points}, api.Sketch{Points: points, Constraints: []api.Constraint{fine}})
	}
	for _, count := range []int{17, 1 << 16} {
		out = append(out, api.Sketch{Points: 2, Constraints: slices.Repeat([]api.Constraint{fine}, count)})
	}
	for i, c := range InvalidConstraints() {
		list := slices.Repeat([]api.Constraint{fine}, 1+i%16)
		list[i%5%len(list)] = c
		out = append(out, api.Sketch{Points: 8, Constraints: list})
	}
	return append(out, api.Sketch{Points: 1, Constraints: []api.Constraint{fine}})
}

// Places returns count points whose coordinates have up to length digits, at most 12.
func Places(count int, length int, seed uint64) [][2]api.Ratio {
	nums, dens := Integers(2*count, length, seed), Integers(2*count, length, seed+1<<32)
	var out [][2]api.Ratio
	for i := range count {
		out = append(out, [2]api.Ratio{Fraction(nums[2*i], dens[2*i]), Fraction(nums[2*i+1], dens[2*i+1])})
	}
	return out
}

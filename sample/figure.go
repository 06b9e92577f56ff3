package sample

import (
	"slices"
	"strconv"
	"strings"

	"workpiece/api"
	"workpiece/integer"
	"workpiece/rational"
	"workpiece/sketch"
)

// Sketch returns the sketch with n points and the given constraints.
func Sketch(n int, list ...api.Constraint) api.Sketch {
	return api.Sketch{Points: n, Constraints: list}
}

// SketchOf returns the sketch with the text s: its number of points, and constraints
// with their kind, four indices, and values. It panics if there is none.
func SketchOf(s string) api.Sketch {
	parts := strings.Split(s, ";")
	out := Sketch(index(parts[0]))
	for _, part := range parts[1:] {
		words := strings.Fields(part)
		var c api.Constraint
		for i, field := range []*int{&c.Kind, &c.P, &c.Q, &c.R, &c.S} {
			*field = index(words[i])
		}
		switch c.Kind {
		case api.CFix:
			c.X, c.Y = Number(words[5]), Number(words[6])
		case api.CDistance:
			c.Value = Number(words[5])
		}
		out.Constraints = append(out.Constraints, c)
	}
	return out
}

// index returns the number with the decimal digits s. It panics if there is none.
func index(s string) int {
	i, err := strconv.Atoi(s)
	if err != nil {
		panic("not a number: " + s)
	}
	return i
}

// Fix returns the constraint that the point p is at (x, y).
func Fix(p int, x string, y string) api.Constraint {
	return api.Constraint{Kind: api.CFix, P: p, X: Number(x), Y: Number(y)}
}

// Distance returns the constraint that the points p and q have a distance.
func Distance(p int, q int, value string) api.Constraint {
	return api.Constraint{Kind: api.CDistance, P: p, Q: q, Value: Number(value)}
}

// Tie returns a constraint of a kind that has no values.
func Tie(kind int, points ...int) api.Constraint {
	l := append(points, 0, 0, 0)
	return api.Constraint{Kind: kind, P: l[0], Q: l[1], R: l[2], S: l[3]}
}

// Based returns the sketch of the chapters' examples: n points, of which 0 and 1 are
// fixed, 4 apart, with further constraints.
func Based(n int, list ...api.Constraint) api.Sketch {
	return Sketch(n, append([]api.Constraint{Fix(0, "0", "0"), Fix(1, "4", "0")}, list...)...)
}

// A Figure is a sketch, and places of its points for which all constraints hold.
type Figure struct {
	api.Sketch
	Places [][2]api.Ratio
}

// Figures returns count figures, whose points are in such places that many constraints
// hold for them.
func Figures(count int, seed uint64) []Figure {
	xs, ys := Numbers("0 3 4 8 -4 3/2 -5"), Numbers("0 3 6 -3 0 2 12")
	var out []Figure
	for i := range count {
		own := seed + uint64(i)<<24
		f := Figure{Sketch: Sketch(2 + i%5)}
		random := Bytes(2*f.Points, own)
		for p := range f.Points {
			f.Places = append(f.Places, [2]api.Ratio{xs[int(random[2*p])%len(xs)], ys[int(random[2*p+1])%len(ys)]})
		}
		order := Shuffled(f.Points, own)
		for k := range order {
			f.Constraints = append(f.Constraints, fittedAt(k, order, f.Places, own+uint64(k)<<12)...)
		}
		f.Constraints = Reordered(f.Constraints, Shuffled(len(f.Constraints), own))
		out = append(out, f)
	}
	return out
}

// fittedAt returns constraints that tie the point at the place k in an order to those
// before it: one that determines it, or two loci, unless there are too few.
func fittedAt(k int, order []int, places [][2]api.Ratio, seed uint64) []api.Constraint {
	var loci []api.Constraint
	for try := range 200 {
		c, ok := Fitted(Renumbered(Newest(k, seed+uint64(try)), order), places)
		isKnown := func(other api.Constraint) bool {
			return c.Kind == other.Kind && slices.Equal(sketch.Uses(c), sketch.Uses(other))
		}
		switch {
		case !ok || slices.ContainsFunc(loci, isKnown) || c.Kind == api.CFix && k > 0 && try < 20:
		case c.Kind == api.CFix || c.Kind == api.CMidpoint:
			return []api.Constraint{c}
		default:
			if loci = append(loci, c); len(loci) == 2 {
				return loci
			}
		}
	}
	return loci
}

// Fitted returns c with other values, so that it holds for the points in the places,
// and false if it does not hold whatever they are.
func Fitted(c api.Constraint, places [][2]api.Ratio) (api.Constraint, bool) {
	switch c.Kind {
	case api.CFix:
		c.X, c.Y = places[c.P][0], places[c.P][1]
	case api.CDistance:
		c.Value = Number("1")
		square, _ := rational.Add(residuals(c, places)[0], c.Value)
		length, ok := squareRoot(square)
		if !ok || square.Num == "0" {
			return c, false
		}
		c.Value = length
	}
	isNotZero := func(r api.Ratio) bool { return r.Num != "0" }
	return c, !slices.ContainsFunc(residuals(c, places), isNotZero)
}

// residuals returns the residuals of c. It panics if there are none.
func residuals(c api.Constraint, places [][2]api.Ratio) []api.Ratio {
	list, err := sketch.Residual(c, places)
	if err != api.OK {
		panic("a constraint without residuals")
	}
	return list
}

// squareRoot returns the fraction whose square is r, which must not be negative, and
// false if there is none.
func squareRoot(r api.Ratio) (api.Ratio, bool) {
	num, errNum := integer.Root(r.Num)
	den, errDen := integer.Root(r.Den)
	if errNum != api.OK || errDen != api.OK {
		panic("a negative fraction has no root")
	}
	root := Fraction(num, den)
	square, err := rational.Mul(root, root)
	return root, err == api.OK && square == r
}

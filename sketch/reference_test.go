package sketch_test

import (
	"fmt"
	"math/big"
	"strconv"
	"strings"

	"workpiece/api"
	"workpiece/rational"
	"workpiece/sample"
	"workpiece/tower"
)

// refused is the outcome of a call that returns ErrSketch.
var refused = sample.Failure(api.ErrSketch)

// text returns the text of a list of fractions.
func text(list []api.Ratio) string {
	var words []string
	for _, r := range list {
		words = append(words, rational.Print(r))
	}
	return strings.Join(words, " ")
}

// residualOutcome returns the text of resulting residuals, or refused.
func residualOutcome(list []api.Ratio, err api.Errno) string {
	return sample.Outcome(text(list), len(list) == 0, err)
}

// gradientOutcome returns the text of a resulting gradient, or refused.
func gradientOutcome(gradient [][][2]api.Ratio, err api.Errno) string {
	var out []string
	for _, g := range gradient {
		var words []string
		for _, p := range g {
			words = append(words, text(p[:]))
		}
		out = append(out, strings.Join(words, ", "))
	}
	return sample.Outcome(strings.Join(out, "; "), len(gradient) == 0, err)
}

// holdsOutcome returns the text of what Holds returns.
func holdsOutcome(holds bool, err api.Errno) string {
	return sample.Outcome(strconv.FormatBool(holds), !holds, err)
}

// sketchOutcome returns a text of all fields of a resulting sketch, or the error.
func sketchOutcome(s api.Sketch, err api.Errno) string {
	return sample.Outcome(fmt.Sprintf("%#v", s), s.Points == 0 && len(s.Constraints) == 0, err)
}

// value returns the value of the valid fraction r.
func value(r api.Ratio) *big.Rat {
	v, ok := new(big.Rat).SetString(r.Num + "/" + r.Den)
	if !ok {
		panic("not a fraction: " + r.Num + "/" + r.Den)
	}
	return v
}

// ofValue returns the fraction with the value v.
func ofValue(v *big.Rat) api.Ratio {
	return api.Ratio{Num: v.Num().String(), Den: v.Denom().String()}
}

// A table calculates the residuals as they stand in the table of the chapter, with
// numbers of any type.
type table[T any] struct {
	points   [][2]T
	constant func(r api.Ratio) T
	add      func(a, b T) T
	sub      func(a, b T) T
	mul      func(a, b T) T
}

// residuals returns the residuals of the valid constraint c.
func (t table[T]) residuals(c api.Constraint) []T {
	x := func(i int) T { return t.points[i][0] }
	y := func(i int) T { return t.points[i][1] }
	squared := func(a T) T { return t.mul(a, a) }
	switch c.Kind {
	case 1:
		return []T{t.sub(x(c.P), t.constant(c.X)), t.sub(y(c.P), t.constant(c.Y))}
	case 2:
		square := t.add(squared(t.sub(x(c.P), x(c.Q))), squared(t.sub(y(c.P), y(c.Q))))
		return []T{t.sub(square, t.constant(ofValue(new(big.Rat).Mul(value(c.Value), value(c.Value)))))}
	case 3:
		return []T{t.sub(y(c.P), y(c.Q))}
	case 4:
		return []T{t.sub(x(c.P), x(c.Q))}
	case 5:
		left := t.mul(t.sub(x(c.P), x(c.Q)), t.sub(y(c.R), y(c.Q)))
		return []T{t.sub(left, t.mul(t.sub(y(c.P), y(c.Q)), t.sub(x(c.R), x(c.Q))))}
	case 6:
		left := t.mul(t.sub(x(c.Q), x(c.P)), t.sub(x(c.S), x(c.R)))
		return []T{t.add(left, t.mul(t.sub(y(c.Q), y(c.P)), t.sub(y(c.S), y(c.R))))}
	case 7:
		return []T{t.sub(t.sub(x(c.P), x(c.Q)), t.sub(x(c.R), x(c.P))), t.sub(t.sub(y(c.P), y(c.Q)), t.sub(y(c.R), y(c.P)))}
	}
	left := t.add(squared(t.sub(x(c.P), x(c.Q))), squared(t.sub(y(c.P), y(c.Q))))
	return []T{t.sub(left, t.add(squared(t.sub(x(c.P), x(c.R))), squared(t.sub(y(c.P), y(c.R)))))}
}

// exact returns the residuals of c at rational points.
func exact(c api.Constraint, points [][2]*big.Rat) []*big.Rat {
	return table[*big.Rat]{
		points:   points,
		constant: value,
		add:      func(a, b *big.Rat) *big.Rat { return new(big.Rat).Add(a, b) },
		sub:      func(a, b *big.Rat) *big.Rat { return new(big.Rat).Sub(a, b) },
		mul:      func(a, b *big.Rat) *big.Rat { return new(big.Rat).Mul(a, b) },
	}.residuals(c)
}

// values returns the coordinates of the points.
func values(points [][2]api.Ratio) [][2]*big.Rat {
	var out [][2]*big.Rat
	for _, p := range points {
		out = append(out, [2]*big.Rat{value(p[0]), value(p[1])})
	}
	return out
}

// wantResidual returns the outcome of Residual of the valid constraint c.
func wantResidual(c api.Constraint, points [][2]api.Ratio) string {
	var out []api.Ratio
	for _, v := range exact(c, values(points)) {
		out = append(out, ofValue(v))
	}
	return text(out)
}

// wantGradient returns the outcome of Gradient of the valid constraint c: half of
// the differences of the residuals if a coordinate is 1 greater and 1 less, which
// is exact for polynomials of degree 2.
func wantGradient(c api.Constraint, points [][2]api.Ratio) string {
	var out [][][2]api.Ratio
	for range exact(c, values(points)) {
		out = append(out, make([][2]api.Ratio, len(points)))
	}
	for p := range points {
		for axis := range 2 {
			at := values(points)
			middle := at[p][axis]
			at[p][axis] = new(big.Rat).Add(middle, big.NewRat(1, 1))
			after := exact(c, at)
			at[p][axis] = new(big.Rat).Sub(middle, big.NewRat(1, 1))
			for i, before := range exact(c, at) {
				difference := new(big.Rat).Sub(after[i], before)
				out[i][p][axis] = ofValue(difference.Mul(difference, big.NewRat(1, 2)))
			}
		}
	}
	return gradientOutcome(out, api.OK)
}

// wantHolds returns the outcome of Holds of a constraint that is valid for the
// points, with the functions of package tower in the order of the chapter.
func wantHolds(c api.Constraint, t api.Tower, points [][2][]api.Ratio) string {
	failed := !tower.Valid(t)
	checked := func(a []api.Ratio, err api.Errno) []api.Ratio {
		failed = failed || err != api.OK
		return a
	}
	residuals := table[[]api.Ratio]{
		points:   points,
		constant: func(r api.Ratio) []api.Ratio { return checked(tower.FromRatio(t, r)) },
		add:      func(a, b []api.Ratio) []api.Ratio { return checked(tower.Add(t, a, b)) },
		sub:      func(a, b []api.Ratio) []api.Ratio { return checked(tower.Sub(t, a, b)) },
		mul:      func(a, b []api.Ratio) []api.Ratio { return checked(tower.Mul(t, a, b)) },
	}.residuals(c)
	holds := true
	for _, r := range residuals {
		sign, err := tower.Sign(t, r)
		holds = holds && sign == 0
		failed = failed || err != api.OK
	}
	if failed {
		return refused
	}
	return strconv.FormatBool(holds)
}

// wantCode returns the outcome of Encode.
func wantCode(s api.Sketch) string {
	if !sample.IsSketch(s) {
		return refused
	}
	out := sample.Code(s.Points, len(s.Constraints))
	for _, c := range s.Constraints {
		out += sample.Code(c.Kind)
		for _, i := range sample.Indices(c) {
			out += sample.Code(i)
		}
		switch c.Kind {
		case 1:
			out += sample.Code(c.X, c.Y)
		case 2:
			out += sample.Code(c.Value)
		}
	}
	return out
}

// wantSketch returns the outcome of Decode.
func wantSketch(code string) string {
	s := sample.Scanner{Rest: code}
	out := api.Sketch{Points: s.Int()}
	count := s.Int()
	if count < 0 || count > 16 {
		s.Fail(api.ErrSketch)
	}
	for i := 0; i < count && s.Err == api.OK; i++ {
		c := api.Constraint{Kind: s.Int()}
		if c.Kind < 1 || c.Kind > 8 {
			s.Fail(api.ErrSketch)
			break
		}
		for k := range sample.Indices(c) {
			*[]*int{&c.P, &c.Q, &c.R, &c.S}[k] = s.Int()
		}
		if c.Kind == 1 {
			c.X = s.Ratio()
			c.Y = s.Ratio()
		}
		if c.Kind == 2 {
			c.Value = s.Ratio()
		}
		out.Constraints = append(out.Constraints, c)
	}
	s.End()
	if !sample.IsSketch(out) {
		s.Fail(api.ErrSketch)
	}
	if s.Err != api.OK {
		return sample.Failure(s.Err)
	}
	return sketchOutcome(out, api.OK)
}

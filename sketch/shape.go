package sketch

import (
	"slices"
	"strings"

	"workpiece/api"
	"workpiece/rational"
)

// A shape says what the constraints of a kind have: how many points, whether only
// those of the pairs P, Q and R, S must be different, a position (X and Y) or a
// length (Value), and how many equations.
type shape struct {
	points    int
	pairs     bool
	position  bool
	length    bool
	equations int
}

var shapes = [...]shape{
	api.CFix:           {points: 1, position: true, equations: 2},
	api.CDistance:      {points: 2, length: true, equations: 1},
	api.CHorizontal:    {points: 2, equations: 1},
	api.CVertical:      {points: 2, equations: 1},
	api.COnLine:        {points: 3, equations: 1},
	api.CPerpendicular: {points: 4, pairs: true, equations: 1},
	api.CMidpoint:      {points: 3, equations: 2},
	api.CEqual:         {points: 3, equations: 1},
}

// A row is a constraint with the shape of its kind, which has nothing if the kind
// is not known.
type row struct {
	shape
	api.Constraint
}

// rowOf returns the row of c.
func rowOf(c api.Constraint) row {
	if c.Kind < 0 || c.Kind >= len(shapes) {
		return row{Constraint: c}
	}
	return row{shapes[c.Kind], c}
}

// isKnown reports whether the kind of r is known.
func (r *row) isKnown() bool { return r.points > 0 }

// indices returns the fields with the indices of the points, in order.
func (r *row) indices() []*int { return []*int{&r.P, &r.Q, &r.R, &r.S}[:r.points] }

// fractions returns the fields with the other values, in order.
func (r *row) fractions() []*api.Ratio {
	switch {
	case r.position:
		return []*api.Ratio{&r.X, &r.Y}
	case r.length:
		return []*api.Ratio{&r.Value}
	}
	return nil
}

// uses returns the indices of the points in ascending order, each once.
func (r *row) uses() []int {
	var out []int
	for _, index := range r.indices() {
		out = append(out, *index)
	}
	slices.Sort(out)
	return slices.Compact(out)
}

// isValid reports whether r is a valid constraint for so many points.
func (r *row) isValid(points int) bool {
	return r.isKnown() && r.isBare() && r.hasPoints(points) && r.hasFractions()
}

// isBare reports whether all fields that the kind of r does not have are zero.
func (r *row) isBare() bool {
	rest := *r
	for _, index := range rest.indices() {
		*index = 0
	}
	for _, value := range rest.fractions() {
		*value = api.Ratio{}
	}
	return rest.Constraint == api.Constraint{Kind: r.Kind}
}

// hasPoints reports whether the indices are those of so many points, and differ
// where they must.
func (r *row) hasPoints(points int) bool {
	indices := r.indices()
	for i, index := range indices {
		if *index < 0 || *index >= points {
			return false
		}
		for k, other := range indices[:i] {
			if *index == *other && (!r.pairs || i/2 == k/2) {
				return false
			}
		}
	}
	return true
}

// hasFractions reports whether the other values are short, and a length is
// positive.
func (r *row) hasFractions() bool {
	for _, value := range r.fractions() {
		if !isShort(*value) {
			return false
		}
	}
	return !r.length || rational.Compare(r.Value, zero) > 0
}

// isShort reports whether r is valid and has few digits.
func isShort(r api.Ratio) bool {
	num := strings.TrimPrefix(r.Num, "-")
	return len(num) <= api.MaxShort && len(r.Den) <= api.MaxShort && rational.Valid(r)
}

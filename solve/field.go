package solve

import (
	"workpiece/api"
	"workpiece/integer"
	"workpiece/rational"
	"workpiece/tower"
)

// A number is an element of a tower.
type number []api.Ratio

// A point has numbers as coordinates.
type point struct {
	x number
	y number
}

var (
	zero = api.Ratio{Num: "0", Den: "1"}
	half = api.Ratio{Num: "1", Den: "2"}
	one  = api.Ratio{Num: "1", Den: "1"}
	two  = api.Ratio{Num: "2", Den: "1"}
)

// A field calculates with the elements of a tower. It ends the calculation if
// something is too large.
type field struct {
	api.Tower
}

// constant returns the number with the value r.
func (f field) constant(r api.Ratio) number { return must(tower.FromRatio(f.Tower, r)) }

// plus adds the others to first, from the left to the right.
func (f field) plus(first number, others ...number) number {
	for _, x := range others {
		first = must(tower.Add(f.Tower, first, x))
	}
	return first
}

// minus subtracts the others from first, from the left to the right.
func (f field) minus(first number, others ...number) number {
	for _, x := range others {
		first = must(tower.Sub(f.Tower, first, x))
	}
	return first
}

func (f field) negative(x number) number        { return f.minus(f.constant(zero), x) }
func (f field) times(x number, y number) number { return must(tower.Mul(f.Tower, x, y)) }
func (f field) squared(x number) number         { return f.times(x, x) }
func (f field) twice(x number) number           { return f.times(f.constant(two), x) }
func (f field) sign(x number) int               { return must(tower.Sign(f.Tower, x)) }

// dividingBy returns the function that divides numbers by y.
func (f field) dividingBy(y number) func(x number) number {
	inverse := must(tower.Inverse(f.Tower, y))
	return func(x number) number { return f.times(x, inverse) }
}

// order returns -1, 0 or 1 if p comes before q, is equal to it, or comes after it.
func (f field) order(p point, q point) int {
	order := must(tower.Compare(f.Tower, p.x, q.x))
	if order == 0 {
		order = must(tower.Compare(f.Tower, p.y, q.y))
	}
	return order
}

// root returns the square root of x, which must be positive, and the field that
// contains it: f, or an extension of f.
func (f field) root(x number) (number, field) {
	if r, ok := tower.Rational(f.Tower, x); ok {
		if root := floorRoot(r); must(rational.Mul(root, root)) == r {
			return f.constant(root), f
		}
	}
	wide := field{must(tower.Extend(f.Tower, x))}
	return must(tower.Root(wide.Tower)), wide
}

// floorRoot returns the square root of the positive fraction r if that is a
// fraction, and another fraction otherwise.
func floorRoot(r api.Ratio) api.Ratio {
	return must(rational.Make(must(integer.Root(r.Num)), must(integer.Root(r.Den))))
}

// embedded returns the number x of f, or of a field that f extends.
func (f field) embedded(x number) number { return must(tower.Embed(f.Tower, x)) }

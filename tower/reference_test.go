package tower_test

import (
	"math/big"
	"slices"
	"strconv"

	"workpiece/api"
	"workpiece/enclosure"
	"workpiece/rational"
	"workpiece/sample"
)

// refused is what a function returns together with ErrTower.
const refused = "refused"

// outcome returns the text of a resulting element, or refused if it is empty with
// ErrTower.
func outcome(a []api.Ratio, err api.Errno) string {
	switch {
	case err == api.OK && len(a) > 0:
		return text(a)
	case err == api.ErrTower && len(a) == 0:
		return refused
	}
	return "a wrong result: " + text(a)
}

// signOutcome returns the text of a resulting sign, or refused.
func signOutcome(sign int, err api.Errno) string {
	switch {
	case err == api.OK:
		return strconv.Itoa(sign)
	case err == api.ErrTower && sign == 0:
		return refused
	}
	return "a wrong result: " + strconv.Itoa(sign)
}

// intervalOutcome returns the text of a resulting interval, or refused.
func intervalOutcome(x api.Interval, err api.Errno) string {
	switch {
	case err == api.OK && enclosure.Valid(x):
		return text([]api.Ratio{x.Lo, x.Hi})
	case err == api.ErrTower && x == api.Interval{}:
		return refused
	}
	return "a wrong result: " + text([]api.Ratio{x.Lo, x.Hi})
}

// towerOutcome returns the text of a resulting tower, or refused.
func towerOutcome(t api.Tower, err api.Errno) string {
	switch {
	case err == api.OK && len(t.Radicands) > 0:
		return towerText(t)
	case err == api.ErrTower && len(t.Radicands) == 0:
		return refused
	}
	return "a wrong result: " + towerText(t)
}

// A number is an element as the chapter defines it: of level 0 a fraction, and
// otherwise two numbers of the lower tower.
type number struct {
	value api.Ratio
	a, b  *number
}

// numberOf returns the number with the coefficients a.
func numberOf(a []api.Ratio) *number {
	if len(a) == 1 {
		return &number{value: a[0]}
	}
	return &number{a: numberOf(a[:len(a)/2]), b: numberOf(a[len(a)/2:])}
}

// coefficients returns the coefficients of x.
func (x *number) coefficients() []api.Ratio {
	if x.a == nil {
		return []api.Ratio{x.value}
	}
	return append(x.a.coefficients(), x.b.coefficients()...)
}

// A reference calculates in a tower by the definitions of the chapter, step by
// step and without leaving any out, and notes whether an operation was too large.
type reference struct {
	radicands []*number
	tooLarge  bool
}

// referenceOf returns a reference for the valid tower t.
func referenceOf(t api.Tower) *reference {
	out := &reference{}
	for _, d := range t.Radicands {
		out.radicands = append(out.radicands, numberOf(d))
	}
	return out
}

// outcome returns the text of x, or refused if an operation was too large.
func (r *reference) outcome(x *number) string {
	if r.tooLarge {
		return refused
	}
	return text(x.coefficients())
}

// signOutcome returns the text of sign, or refused.
func (r *reference) signOutcome(sign int) string {
	if r.tooLarge {
		return refused
	}
	return strconv.Itoa(sign)
}

// each applies operation to the coefficients of x and y.
func (r *reference) each(operation func(a, b api.Ratio) (api.Ratio, api.Errno), x, y *number) *number {
	if x.a != nil {
		return &number{a: r.each(operation, x.a, y.a), b: r.each(operation, x.b, y.b)}
	}
	value, err := operation(x.value, y.value)
	if err != api.OK {
		r.tooLarge = true
		return numberOf(sample.Numbers("0"))
	}
	return &number{value: value}
}

func (r *reference) plus(x, y *number) *number  { return r.each(rational.Add, x, y) }
func (r *reference) minus(x, y *number) *number { return r.each(rational.Sub, x, y) }

func (r *reference) times(level int, x, y *number) *number {
	switch {
	case r.tooLarge:
		// There is no result that would have to be right.
		return x
	case level == 0:
		return r.each(rational.Mul, x, y)
	}
	d := r.radicands[level-1]
	times := func(x, y *number) *number { return r.times(level-1, x, y) }
	return &number{
		a: r.plus(times(x.a, y.a), times(times(x.b, y.b), d)),
		b: r.plus(times(x.a, y.b), times(x.b, y.a)),
	}
}

func (r *reference) norm(level int, x *number) *number {
	square, other := r.times(level-1, x.a, x.a), r.times(level-1, x.b, x.b)
	return r.minus(square, r.times(level-1, other, r.radicands[level-1]))
}

func (r *reference) sign(level int, x *number) int {
	if level == 0 {
		return rational.Compare(x.value, sample.Numbers("0")[0])
	}
	s := r.sign(level-1, x.a)
	t := r.sign(level-1, x.b)
	if t == 0 {
		return s
	}
	if s == 0 || s == t {
		return t
	}
	return s * r.sign(level-1, r.norm(level, x))
}

// inverse returns the inverse of x, whose sign must have been determined.
func (r *reference) inverse(level int, x *number) *number {
	if level == 0 {
		return r.each(rational.Div, numberOf(sample.Numbers("1")), x)
	}
	zero := numberOf(slices.Repeat(sample.Numbers("0"), 1<<(level-1)))
	n := r.norm(level, x)
	if r.sign(level-1, n) == 0 {
		return &number{a: r.inverse(level-1, r.plus(x.a, x.a)), b: zero}
	}
	m := r.inverse(level-1, n)
	return &number{a: r.times(level-1, x.a, m), b: r.times(level-1, r.minus(zero, x.b), m)}
}

// enclosure returns the enclosure of x with p places.
func (r *reference) enclosure(level int, x *number, p int) api.Interval {
	if level == 0 {
		return api.Interval{Lo: x.value, Hi: x.value}
	}
	ok := func(x api.Interval, err api.Errno) api.Interval {
		r.tooLarge = r.tooLarge || err != api.OK
		return x
	}
	root := ok(enclosure.Sqrt(r.enclosure(level-1, r.radicands[level-1], p), p))
	product := ok(enclosure.Mul(r.enclosure(level-1, x.b, p), root))
	return ok(enclosure.Round(ok(enclosure.Add(r.enclosure(level-1, x.a, p), product)), p))
}

// wantEnclosed returns what Enclose is to return.
func wantEnclosed(t api.Tower, a []api.Ratio, places int) string {
	r := referenceOf(t)
	x, err := enclosure.Round(r.enclosure(len(t.Radicands), numberOf(a), places+10), places)
	if r.tooLarge || err != api.OK {
		return refused
	}
	return text([]api.Ratio{x.Lo, x.Hi})
}

// precision is with how many bits real numbers are calculated. What is nearer to 0
// than half of these bits can tell is taken for 0: elements whose coefficients
// have few digits are not so near to it, unless they are 0.
const precision = 8000

// realOf returns the real number v.
func realOf(v api.Ratio) *big.Float {
	r, ok := new(big.Rat).SetString(v.Num + "/" + v.Den)
	if !ok {
		panic("not a fraction: " + v.Num + "/" + v.Den)
	}
	return new(big.Float).SetPrec(precision).SetRat(r)
}

// A valuer calculates the values of the elements of a tower, from the roots of its
// radicands.
type valuer []*big.Float

// valuerOf returns a valuer for the valid tower t.
func valuerOf(t api.Tower) valuer {
	var v valuer
	for _, d := range t.Radicands {
		v = append(v, new(big.Float).SetPrec(precision).Sqrt(v.of(d)))
	}
	return v
}

// of returns the value of the element a.
func (v valuer) of(a []api.Ratio) *big.Float {
	sum := new(big.Float).SetPrec(precision)
	for i, r := range a {
		term := realOf(r)
		// Each bit of the place of a coefficient is a root by which it is
		// multiplied.
		for k, root := range v {
			if i>>k&1 == 1 {
				term.Mul(term, root)
			}
		}
		sum.Add(sum, term)
	}
	return sum
}

// order returns the sign of x minus y.
func order(x, y *big.Float) int {
	difference := new(big.Float).SetPrec(precision).Sub(x, y)
	if difference.Sign() == 0 || difference.MantExp(nil) < -precision/2 {
		return 0
	}
	return difference.Sign()
}

// sign returns the sign of the value of a.
func (v valuer) sign(a []api.Ratio) int { return order(v.of(a), new(big.Float)) }

package poly_test

import (
	"math/big"
	"strconv"

	"workpiece/api"
	"workpiece/rational"
	"workpiece/sample"
)

// refused is the outcome of a call that returns ErrPoly.
var refused = sample.Failure(api.ErrPoly)

// outcome returns the text of a resulting polynomial, or refused.
func outcome(p []api.Ratio, err api.Errno) string { return sample.Outcome(text(p), len(p) == 0, err) }

// pairOutcome returns the text of a resulting quotient and remainder, or refused.
func pairOutcome(quotient []api.Ratio, rest []api.Ratio, err api.Errno) string {
	return sample.Outcome(text(quotient)+" and "+text(rest), len(quotient)+len(rest) == 0, err)
}

// numberOutcome returns the text of a resulting fraction, or refused.
func numberOutcome(r api.Ratio, err api.Errno) string {
	return sample.Outcome(rational.Print(r), r == api.Ratio{}, err)
}

// countOutcome returns the text of a resulting number of roots, or refused.
func countOutcome(n int, err api.Errno) string { return sample.Outcome(strconv.Itoa(n), n == 0, err) }

// listOutcome returns the text of resulting intervals, or refused.
func listOutcome(list []api.Interval, err api.Errno) string {
	out := ""
	for _, x := range list {
		out += "[" + rational.Print(x.Lo) + ", " + rational.Print(x.Hi) + "]"
	}
	return sample.Outcome(out, len(list) == 0, err)
}

// A reference calculates by the definitions of the chapter, step by step and
// without leaving any out, and notes whether a computation was too large.
type reference struct{ tooLarge bool }

// do returns what operation returns for a and b.
func (r *reference) do(operation func(a, b api.Ratio) (api.Ratio, api.Errno), a, b api.Ratio) api.Ratio {
	out, err := operation(a, b)
	if err != api.OK {
		r.tooLarge = true
		return number("0")
	}
	return out
}

func (r *reference) add(a, b api.Ratio) api.Ratio { return r.do(rational.Add, a, b) }
func (r *reference) sub(a, b api.Ratio) api.Ratio { return r.do(rational.Sub, a, b) }
func (r *reference) mul(a, b api.Ratio) api.Ratio { return r.do(rational.Mul, a, b) }
func (r *reference) div(a, b api.Ratio) api.Ratio { return r.do(rational.Div, a, b) }

// of returns coefficient i of p, which may be a missing one.
func of(p []api.Ratio, i int) api.Ratio {
	if i < 0 || i >= len(p) {
		return number("0")
	}
	return p[i]
}

func (r *reference) each(operation func(a, b api.Ratio) api.Ratio, p, q []api.Ratio) []api.Ratio {
	var out []api.Ratio
	for i := 0; i < len(p) || i < len(q); i++ {
		out = append(out, operation(of(p, i), of(q, i)))
	}
	return stripped(out)
}

func (r *reference) product(p, q []api.Ratio) []api.Ratio {
	if len(p) == 0 || len(q) == 0 {
		return nil
	}
	if len(p)-1+len(q)-1 > 12 {
		r.tooLarge = true
		return nil
	}
	var out []api.Ratio
	for k := range len(p) + len(q) - 1 {
		sum := number("0")
		for i := 0; i < len(p); i++ {
			if k-i >= 0 && k-i < len(q) {
				sum = r.add(sum, r.mul(p[i], q[k-i]))
			}
		}
		out = append(out, sum)
	}
	return out
}

func (r *reference) divide(p, q []api.Ratio) (quotient, rest []api.Ratio) {
	if len(q) == 0 {
		r.tooLarge = true
	}
	rest = p
	byPower := map[int]api.Ratio{}
	for len(rest) >= len(q) && !r.tooLarge {
		power := len(rest) - len(q)
		f := r.div(rest[len(rest)-1], q[len(q)-1])
		byPower[power] = f
		var next []api.Ratio
		for i := 0; i < len(rest)-1; i++ {
			c := rest[i]
			if i >= power {
				c = r.sub(c, r.mul(f, q[i-power]))
			}
			next = append(next, c)
		}
		rest = stripped(next)
	}
	for i := 0; i <= len(p)-len(q); i++ {
		c, ok := byPower[i]
		if !ok {
			c = number("0")
		}
		quotient = append(quotient, c)
	}
	return quotient, rest
}

// scaled returns p with each coefficient divided by c.
func (r *reference) scaled(p []api.Ratio, c api.Ratio) []api.Ratio {
	var out []api.Ratio
	for _, a := range p {
		out = append(out, r.div(a, c))
	}
	return out
}

func (r *reference) monic(p []api.Ratio) []api.Ratio {
	if len(p) == 0 {
		return nil
	}
	return r.scaled(p, p[len(p)-1])
}

func (r *reference) gcd(p, q []api.Ratio) []api.Ratio {
	for len(q) > 0 && !r.tooLarge {
		_, rest := r.divide(p, q)
		p, q = q, r.monic(rest)
	}
	return r.monic(p)
}

func (r *reference) derivative(p []api.Ratio) []api.Ratio {
	var out []api.Ratio
	for i := range max(1, len(p)) - 1 {
		out = append(out, r.mul(number(strconv.Itoa(i+1)), p[i+1]))
	}
	return out
}

func (r *reference) at(p []api.Ratio, x api.Ratio) api.Ratio {
	value := number("0")
	for i := len(p) - 1; i >= 0; i-- {
		value = r.add(r.mul(value, x), p[i])
	}
	return value
}

// sturm returns the Sturm sequence of p.
func (r *reference) sturm(p []api.Ratio) [][]api.Ratio {
	s, _ := r.divide(p, r.gcd(p, r.derivative(p)))
	out := [][]api.Ratio{s}
	d := r.derivative(s)
	if len(d) == 0 {
		return out
	}
	out = append(out, d)
	for !r.tooLarge {
		_, rest := r.divide(out[len(out)-2], out[len(out)-1])
		if len(rest) == 0 {
			break
		}
		leading := rest[len(rest)-1]
		if rational.Compare(leading, number("0")) > 0 {
			leading.Num = "-" + leading.Num
		}
		out = append(out, r.scaled(rest, leading))
	}
	return out
}

// variations returns the variations of the sequence at x.
func (r *reference) variations(sequence [][]api.Ratio, x api.Ratio) int {
	var signs []int
	for _, p := range sequence {
		if sign := rational.Compare(r.at(p, x), number("0")); sign != 0 {
			signs = append(signs, sign)
		}
	}
	changes := 0
	for i := 1; i < len(signs); i++ {
		if signs[i] != signs[i-1] {
			changes++
		}
	}
	return changes
}

// isolate returns the intervals for the roots of the sequence from lo to hi.
func (r *reference) isolate(sequence [][]api.Ratio, lo, hi api.Ratio, places int) []api.Interval {
	v := r.variations(sequence, lo) - r.variations(sequence, hi)
	if v == 0 || r.tooLarge {
		return nil
	}
	if v == 1 && value(r.sub(hi, lo)).Cmp(new(big.Rat).Inv(power(places))) <= 0 {
		if r.at(sequence[0], hi).Num == "0" {
			return []api.Interval{{Lo: hi, Hi: hi}}
		}
		if r.at(sequence[0], lo).Num != "0" {
			return []api.Interval{{Lo: lo, Hi: hi}}
		}
	}
	middle := r.div(r.add(lo, hi), number("2"))
	return append(r.isolate(sequence, lo, middle, places), r.isolate(sequence, middle, hi, places)...)
}

// value returns the value of the valid fraction r.
func value(r api.Ratio) *big.Rat {
	out, ok := new(big.Rat).SetString(r.Num + "/" + r.Den)
	if !ok {
		panic("not a fraction: " + r.Num + "/" + r.Den)
	}
	return out
}

// power returns 10 to the power of n.
func power(n int) *big.Rat {
	return new(big.Rat).SetInt(new(big.Int).Exp(big.NewInt(10), big.NewInt(int64(n)), nil))
}

// wantSum returns what Add is to return for the polynomials p and q; so do the
// following ones for the other functions.
func wantSum(p, q []api.Ratio) string {
	r := &reference{}
	return r.want(r.each(r.add, p, q))
}

func wantDifference(p, q []api.Ratio) string {
	r := &reference{}
	return r.want(r.each(r.sub, p, q))
}

func wantProduct(p, q []api.Ratio) string {
	r := &reference{}
	return r.want(r.product(p, q))
}

func wantDivision(p, q []api.Ratio) string {
	r := &reference{}
	quotient, rest := r.divide(p, q)
	if r.tooLarge {
		return refused
	}
	return text(quotient) + " and " + text(rest)
}

func wantGcd(p, q []api.Ratio) string {
	r := &reference{}
	return r.want(r.gcd(p, q))
}

func wantDerivative(p []api.Ratio) string {
	r := &reference{}
	return r.want(r.derivative(p))
}

func wantValue(p []api.Ratio, x api.Ratio) string {
	r := &reference{}
	out := r.at(p, x)
	if r.tooLarge {
		return refused
	}
	return rational.Print(out)
}

func wantCount(p []api.Ratio, lo, hi api.Ratio) string {
	if len(p) == 0 || rational.Compare(lo, hi) > 0 {
		return refused
	}
	r := &reference{}
	sequence := r.sturm(p)
	if r.tooLarge {
		return refused
	}
	n := r.variations(sequence, lo) - r.variations(sequence, hi)
	if r.tooLarge {
		return refused
	}
	return strconv.Itoa(n)
}

func wantIntervals(p []api.Ratio, lo, hi api.Ratio, places int) string {
	if len(p) == 0 || rational.Compare(lo, hi) > 0 || places < 0 || places > 30 {
		return refused
	}
	r := &reference{}
	sequence := r.sturm(p)
	if r.tooLarge {
		return refused
	}
	list := r.isolate(sequence, lo, hi, places)
	if r.tooLarge {
		return refused
	}
	return listOutcome(list, api.OK)
}

// want returns the text of p, or refused if a computation was too large.
func (r *reference) want(p []api.Ratio) string {
	if r.tooLarge {
		return refused
	}
	return text(p)
}

package rational_test

import (
	"math/big"

	"workpiece/api"
	"workpiece/rational"
	"workpiece/sample"
)

// nines is the greatest integer of package integer.
var nines = sample.Nines()

// tooLarge is the least number that package integer does not have.
var tooLarge = number(sample.Power(api.MaxDigits))

// number returns the number that the integer s stands for.
func number(s string) *big.Int {
	n, ok := new(big.Int).SetString(s, 10)
	if !ok {
		panic("not a number: " + s)
	}
	return n
}

// isInteger reports whether s is an integer of package integer.
func isInteger(s string) bool {
	n, ok := new(big.Int).SetString(s, 10)
	return ok && n.String() == s && fit(n)
}

// fit reports whether package integer has all of l.
func fit(l ...*big.Int) bool {
	for _, n := range l {
		if n.CmpAbs(tooLarge) >= 0 {
			return false
		}
	}
	return true
}

// isFraction reports whether r is valid.
func isFraction(r api.Ratio) bool {
	if !isInteger(r.Num) || !isInteger(r.Den) || number(r.Den).Sign() <= 0 {
		return false
	}
	return new(big.Int).GCD(nil, nil, number(r.Num), number(r.Den)).String() == "1"
}

// value returns the value of the valid fraction r.
func value(r api.Ratio) *big.Rat { return new(big.Rat).SetFrac(number(r.Num), number(r.Den)) }

// text returns what Print is to return for the valid fraction r.
func text(r api.Ratio) string {
	if r.Den == "1" {
		return r.Num
	}
	return r.Num + "/" + r.Den
}

// ofValue returns the valid fraction with the value v.
func ofValue(v *big.Rat) api.Ratio {
	return api.Ratio{Num: v.Num().String(), Den: v.Denom().String()}
}

// refused is what a function returns together with ErrRational.
const refused = "refused"

// outcome returns the text of a result, or refused if it is a zero value with
// ErrRational.
func outcome(r api.Ratio, err api.Errno) string {
	switch {
	case err == api.OK && isFraction(r):
		return text(r)
	case err == api.ErrRational && r == api.Ratio{}:
		return refused
	}
	return "a wrong result: " + r.Num + "/" + r.Den
}

func sum(a, b api.Ratio) string        { return outcome(rational.Add(a, b)) }
func difference(a, b api.Ratio) string { return outcome(rational.Sub(a, b)) }
func product(a, b api.Ratio) string    { return outcome(rational.Mul(a, b)) }
func quotient(a, b api.Ratio) string   { return outcome(rational.Div(a, b)) }

// reduced returns the text of n divided by d, or refused if d is 0, or package
// integer does not have n, d, or one of the numbers on the way to them.
func reduced(n, d *big.Int, way ...*big.Int) string {
	if d.Sign() == 0 || !fit(n, d) || !fit(way...) {
		return refused
	}
	return text(ofValue(new(big.Rat).SetFrac(n, d)))
}

// times returns the product of the integers x and y.
func times(x, y string) *big.Int { return new(big.Int).Mul(number(x), number(y)) }

func wantSum(a, b api.Ratio) string {
	left, right := times(a.Num, b.Den), times(b.Num, a.Den)
	return reduced(new(big.Int).Add(left, right), times(a.Den, b.Den), left, right)
}

func wantDifference(a, b api.Ratio) string {
	left, right := times(a.Num, b.Den), times(b.Num, a.Den)
	return reduced(new(big.Int).Sub(left, right), times(a.Den, b.Den), left, right)
}

func wantProduct(a, b api.Ratio) string { return reduced(times(a.Num, b.Num), times(a.Den, b.Den)) }

func wantQuotient(a, b api.Ratio) string { return reduced(times(a.Num, b.Den), times(a.Den, b.Num)) }

// wantRounded returns what Down is to return for r, or Up.
func wantRounded(r api.Ratio, places int, up bool) string {
	units := number(sample.Power(places))
	n := new(big.Int).Mul(number(r.Num), units)
	q, rest := new(big.Int).DivMod(n, number(r.Den), new(big.Int))
	if up && rest.Sign() > 0 {
		q.Add(q, big.NewInt(1))
	}
	return reduced(q, units, n)
}

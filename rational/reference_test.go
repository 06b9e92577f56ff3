package rational_test

import (
	"math/big"
	"strings"

	"workpiece/api"
	"workpiece/rational"
	"workpiece/sample"
)

// nines is the greatest integer of package integer.
var nines = strings.Repeat("9", api.MaxDigits)

// tooLarge is the least number that package integer does not have.
var tooLarge = number(power(api.MaxDigits))

// power returns the integer 1 followed by so many zeros.
func power(zeros int) string { return "1" + strings.Repeat("0", zeros) }

// number returns the number that the integer s stands for.
func number(s string) *big.Int {
	n, ok := new(big.Int).SetString(s, 10)
	if !ok {
		panic("not a number: " + s)
	}
	return n
}

// isInteger reports whether s is an integer of package integer.
func isInteger(s string) bool {
	n, ok := new(big.Int).SetString(s, 10)
	return ok && n.String() == s && fit(n)
}

// fit reports whether package integer has all of l.
func fit(l ...*big.Int) bool {
	for _, n := range l {
		if n.CmpAbs(tooLarge) >= 0 {
			return false
		}
	}
	return true
}

// isFraction reports whether r is valid.
func isFraction(r api.Ratio) bool {
	if !isInteger(r.Num) || !isInteger(r.Den) || number(r.Den).Sign() <= 0 {
		return false
	}
	return new(big.Int).GCD(nil, nil, number(r.Num), number(r.Den)).String() == "1"
}

// value returns the value of the valid fraction r.
func value(r api.Ratio) *big.Rat { return new(big.Rat).SetFrac(number(r.Num), number(r.Den)) }

// text returns what Print is to return for the valid fraction r.
func text(r api.Ratio) string {
	if r.Den == "1" {
		return r.Num
	}
	return r.Num + "/" + r.Den
}

// ofValue returns the valid fraction with the value v.
func ofValue(v *big.Rat) api.Ratio {
	return api.Ratio{Num: v.Num().String(), Den: v.Denom().String()}
}

// fraction returns the valid fraction with the value num divided by den.
func fraction(num, den string) api.Ratio {
	return ofValue(new(big.Rat).SetFrac(number(num), number(den)))
}

// refused is what a function returns together with ErrRational.
const refused = "refused"

// outcome returns the text of a result, or refused if it is a zero value with
// ErrRational.
func outcome(r api.Ratio, err api.Errno) string {
	switch {
	case err == api.OK && isFraction(r):
		return text(r)
	case err == api.ErrRational && r == api.Ratio{}:
		return refused
	}
	return "a wrong result: " + r.Num + "/" + r.Den
}

func sum(a, b api.Ratio) string        { return outcome(rational.Add(a, b)) }
func difference(a, b api.Ratio) string { return outcome(rational.Sub(a, b)) }
func product(a, b api.Ratio) string    { return outcome(rational.Mul(a, b)) }
func quotient(a, b api.Ratio) string   { return outcome(rational.Div(a, b)) }

// reduced returns the text of n divided by d, or refused if d is 0, or package
// integer does not have n, d, or one of the numbers on the way to them.
func reduced(n, d *big.Int, way ...*big.Int) string {
	if d.Sign() == 0 || !fit(n, d) || !fit(way...) {
		return refused
	}
	return text(ofValue(new(big.Rat).SetFrac(n, d)))
}

// times returns the product of the integers x and y.
func times(x, y string) *big.Int { return new(big.Int).Mul(number(x), number(y)) }

func wantSum(a, b api.Ratio) string {
	left, right := times(a.Num, b.Den), times(b.Num, a.Den)
	return reduced(new(big.Int).Add(left, right), times(a.Den, b.Den), left, right)
}

func wantDifference(a, b api.Ratio) string {
	left, right := times(a.Num, b.Den), times(b.Num, a.Den)
	return reduced(new(big.Int).Sub(left, right), times(a.Den, b.Den), left, right)
}

func wantProduct(a, b api.Ratio) string { return reduced(times(a.Num, b.Num), times(a.Den, b.Den)) }

func wantQuotient(a, b api.Ratio) string { return reduced(times(a.Num, b.Den), times(a.Den, b.Num)) }

// wantRounded returns what Down is to return for r, or Up.
func wantRounded(r api.Ratio, places int, up bool) string {
	units := number(power(places))
	n := new(big.Int).Mul(number(r.Num), units)
	q, rest := new(big.Int).DivMod(n, number(r.Den), new(big.Int))
	if up && rest.Sign() > 0 {
		q.Add(q, big.NewInt(1))
	}
	return reduced(q, units, n)
}

// invalid contains fractions that are not valid.
var invalid = []api.Ratio{
	{}, {Num: "1"}, {Den: "1"}, {Num: "0"}, {Num: "1", Den: "0"}, {Num: "0", Den: "0"}, {Num: "-1", Den: "0"},
	{Num: "2", Den: "4"}, {Num: "-2", Den: "4"}, {Num: "0", Den: "2"}, {Num: "3", Den: "3"}, {Num: "6", Den: "3"}, {Num: "4", Den: "6"},
	{Num: "1", Den: "-2"}, {Num: "-1", Den: "-2"}, {Num: "0", Den: "-1"}, {Num: "1", Den: "-1"},
	{Num: "-0", Den: "1"}, {Num: "+1", Den: "2"}, {Num: "1", Den: "+2"}, {Num: "01", Den: "2"}, {Num: "1", Den: "02"}, {Num: "x", Den: "1"}, {Num: "1", Den: "x"},
	{Num: "1/2", Den: "1"}, {Num: "1", Den: "1/2"}, {Num: " 1", Den: "2"}, {Num: "1", Den: "2 "}, {Num: "1.0", Den: "1"}, {Num: "\xff", Den: "\x00"},
	{Num: nines + "9", Den: "1"}, {Num: "1", Den: nines + "9"}, {Num: "-" + nines + "9", Den: "2"}, {Num: nines, Den: "3"}, {Num: "-" + nines, Den: nines},
	{Num: strings.Repeat("1", 1<<20), Den: "1"}, {Num: "1", Den: strings.Repeat("/", 1<<20)},
}

// smalls returns all valid fractions with a Num from -most to most and a Den from
// 1 to most.
func smalls(most int64) []api.Ratio {
	var out []api.Ratio
	for n := -most; n <= most; n++ {
		for d := int64(1); d <= most; d++ {
			if v := big.NewRat(n, d); v.Denom().Int64() == d {
				out = append(out, ofValue(v))
			}
		}
	}
	return out
}

// edges returns valid fractions of which operations are too large, or nearly so.
func edges() []api.Ratio {
	sizes := []string{"1", "2", "3", "7", "12", power(30), power(99), power(100), power(199), nines[:99], nines[:100], nines[:101], nines[:199] + "8", nines, "5" + nines[:199]}
	out := []api.Ratio{{Num: "0", Den: "1"}}
	known := map[api.Ratio]bool{}
	for _, n := range sizes {
		for _, d := range sizes {
			for _, r := range []api.Ratio{fraction(n, d), fraction("-"+n, d)} {
				if !known[r] {
					known[r] = true
					out = append(out, r)
				}
			}
		}
	}
	return out
}

// fractions returns count valid fractions whose Num and Den have up to length
// digits. Many have common factors with each other.
func fractions(count int, length int, seed uint64) []api.Ratio {
	nums, dens := sample.Integers(count, length, seed), sample.Integers(count, length, seed+1<<32)
	factors := []string{"1", "2", "3", "10", "36", "210", "1000", "9999"}
	var out []api.Ratio
	for i, num := range nums {
		n, d := times(num, factors[i%len(factors)]), times(dens[i], factors[i/3%len(factors)])
		if fit(n, d) {
			num, dens[i] = n.String(), d.String()
		}
		out = append(out, fraction(num, dens[i]))
	}
	return out
}

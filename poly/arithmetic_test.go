package poly_test

import (
	"math/big"
	"strings"
	"testing"

	"workpiece/api"
	"workpiece/poly"
	"workpiece/rational"
	"workpiece/sample"
)

// P7.1: the examples of the chapter.
func TestExamples(t *testing.T) {
	for i, c := range []struct{ got, want string }{
		{outcome(poly.Mul(parsed("1 1"), parsed("1 -1"))), "1 0 -1"},
		{pairOutcome(poly.Div(parsed("-1 0 1"), parsed("-2 1"))), "2 1 and 3"},
		{outcome(poly.Gcd(parsed("-1 0 1"), parsed("-2 2"))), "-1 1"},
		{outcome(poly.Derivative(parsed("0 0 0 1"))), "0 0 3"},
		{countOutcome(poly.Count(parsed("-2 0 1"), number("0"), number("2"))), "1"},
		{countOutcome(poly.Count(parsed("-2 0 1"), number("-2"), number("2"))), "2"},
		{countOutcome(poly.Count(parsed("-1 3 -3 1"), number("0"), number("1"))), "1"},
		{countOutcome(poly.Count(parsed("-1 3 -3 1"), number("1"), number("2"))), "0"},
		{listOutcome(poly.Isolate(parsed("-2 0 1"), number("0"), number("2"), 1)), "[11/8, 23/16]"},
		{listOutcome(poly.Isolate(parsed("0 -1 1"), number("-1"), number("1"), 0)), "[0, 0][1, 1]"},
	} {
		if c.got != c.want {
			t.Errorf("%d: %s instead of %s", i, c.got, c.want)
		}
	}
}

// P7.1: a result has no leading zeros, and a degree of at most 12.
func TestDegrees(t *testing.T) {
	for i, c := range []struct{ got, want string }{
		{outcome(poly.Add(parsed("1 2 3"), parsed("1 0 -3"))), "2 2"}, {outcome(poly.Add(parsed("1 2 3"), parsed("-1 -2 -3"))), ""},
		{outcome(poly.Sub(parsed("0 0 0 5"), parsed("0 7 0 5"))), "0 -7"}, {outcome(poly.Sub(parsed("1/2"), parsed("1/2"))), ""}, {outcome(poly.Sub(nil, nil)), ""},
		{outcome(poly.Mul(nil, nil)), ""}, {outcome(poly.Derivative(nil)), ""}, {outcome(poly.Derivative(parsed("1/2"))), ""}, {outcome(poly.Gcd(nil, nil)), ""},
		{pairOutcome(poly.Div(nil, nil)), refused}, {pairOutcome(poly.Div(parsed("1 1"), nil)), refused}, {pairOutcome(poly.Div(nil, parsed("1 1"))), " and "},
		{pairOutcome(poly.Div(parsed("0 0 0 0 0 0 0 0 0 0 0 0 1"), parsed("1/2"))), "0 0 0 0 0 0 0 0 0 0 0 0 2 and "}, {pairOutcome(poly.Div(parsed("1 0 0 0 1"), parsed("0 1"))), "0 0 0 1 and 1"},
		{numberOutcome(poly.Eval(nil, number("5"))), "0"}, {numberOutcome(poly.Eval(parsed("7"), number("5"))), "7"},
		{outcome(poly.Gcd(parsed("3"), parsed("-2"))), "1"}, {outcome(poly.Gcd(nil, parsed("-2"))), "1"},
	} {
		if c.got != c.want {
			t.Errorf("%d: %s instead of %s", i, c.got, c.want)
		}
	}
	for a := range 13 {
		for b := range 13 {
			want := refused
			if a+b <= 12 {
				want = strings.Repeat("0 ", a+b) + "6"
			}
			if got := outcome(poly.Mul(parsed(strings.Repeat("0 ", a)+"2"), parsed(strings.Repeat("0 ", b)+"3"))); got != want {
				t.Errorf("degrees %d and %d: %s", a, b, got)
			}
		}
	}
}

// P7.1: numbers of which an operation has no result, although the result of the
// whole computation might have few digits.
func TestTooLarge(t *testing.T) {
	nines := sample.Nines()
	half, many := sample.Power(100), sample.Power(150)
	for i, c := range []struct{ got, want string }{
		{outcome(poly.Add(parsed(nines), parsed("0 "+nines))), nines + " " + nines}, {outcome(poly.Add(parsed(nines), parsed("1"))), refused}, {outcome(poly.Sub(parsed(nines), parsed("-1"))), refused},
		{outcome(poly.Add(nil, parsed("-"+nines))), "-" + nines}, {outcome(poly.Sub(nil, parsed("1/"+nines))), "-1/" + nines},
		{outcome(poly.Mul(parsed(half), parsed(half))), refused}, {outcome(poly.Mul(parsed(half), parsed(sample.Power(99)))), sample.Power(199)}, {outcome(poly.Mul(parsed(half+" "+half), parsed(half+" -"+half))), refused},
		// The coefficient of the power 4 is -1 + nines + 1, in this order or the other one.
		{outcome(poly.Mul(parsed("-1 0 1 0 1/9"), parsed("9 0 "+nines+" 0 1"))), "-9 0 -" + nines[:199] + "0 0 " + nines + " 0 " + strings.Repeat("1", 199) + "2 0 1/9"}, {outcome(poly.Mul(parsed("9 0 "+nines+" 0 1"), parsed("-1 0 1 0 1/9"))), refused},
		{outcome(poly.Derivative(parsed("1 " + nines))), nines}, {outcome(poly.Derivative(parsed("1 1 " + nines))), refused}, {outcome(poly.Derivative(parsed("1 1 1/" + nines))), "1 2/" + nines},
		{numberOutcome(poly.Eval(parsed(nines), number(nines))), nines}, {numberOutcome(poly.Eval(parsed("-"+nines+" 1"), number(nines))), "0"}, {numberOutcome(poly.Eval(parsed("0 -"+many+" 1"), number(many))), "0"}, {numberOutcome(poly.Eval(parsed("0 0 1"), number(many))), refused}, {numberOutcome(poly.Eval(parsed("1 1"), number(nines))), refused},
		// A coefficient that is divided by itself needs the product of its integers.
		{outcome(poly.Gcd(parsed(sample.Power(120)+"/7"+strings.Repeat("0", 78)+"3"), nil)), "1"}, {outcome(poly.Gcd(parsed(sample.Power(120)+"/7"+strings.Repeat("0", 79)+"3"), nil)), refused},
		{pairOutcome(poly.Div(parsed("1 "+half), parsed("1 1/"+half))), refused}, {pairOutcome(poly.Div(parsed("1 "+half), parsed("1 1/"+sample.Power(99)))), sample.Power(199) + " and -" + nines[:199]},
		{pairOutcome(poly.Div(parsed("1"), parsed("1 1/"+nines))), " and 1"}, {pairOutcome(poly.Div(parsed("1 "+half), parsed(half+" 1"))), refused},
	} {
		if c.got != c.want {
			t.Errorf("%d: %s instead of %s", i, c.got, c.want)
		}
	}
}

// checkPair checks the functions of two polynomials against the definitions of the
// chapter, and returns how many of them are not too large.
func checkPair(t *testing.T, p, q []api.Ratio) int {
	t.Helper()
	results := 0
	for _, c := range []struct{ name, got, want string }{
		{"Add", outcome(poly.Add(p, q)), wantSum(p, q)},
		{"Sub", outcome(poly.Sub(p, q)), wantDifference(p, q)},
		{"Mul", outcome(poly.Mul(p, q)), wantProduct(p, q)},
		{"Div", pairOutcome(poly.Div(p, q)), wantDivision(p, q)},
		{"Gcd", outcome(poly.Gcd(p, q)), wantGcd(p, q)},
		{"Derivative", outcome(poly.Derivative(p)), wantDerivative(p)},
	} {
		if c.got != c.want {
			t.Errorf("%s of %s and %s = %s instead of %s", c.name, text(p), text(q), c.got, c.want)
		}
		if c.got != refused {
			results++
		}
	}
	return results
}

// P7.1: polynomials of all degrees, with coefficients of all lengths.
func TestPairs(t *testing.T) {
	for length, least := range map[int]int{1: 800, 2: 800, 5: 700, 10: 600, 30: 500, 60: 400, 110: 350, api.MaxDigits: 250} {
		results := 0
		list := polynomials(api.MaxDegree, length, uint64(length))
		for i, p := range list {
			for k := i % 3; k < len(list); k += 3 {
				results += checkPair(t, p, list[k])
			}
		}
		if results < least {
			t.Errorf("only %d results for %d digits", results, length)
		}
	}
	for i, p := range small(api.MaxDegree, 5) {
		for _, q := range small(api.MaxDegree, uint64(6+i%3)) {
			checkPair(t, p, q)
		}
	}
}

// P7.1: values at numbers of all lengths.
func TestEval(t *testing.T) {
	for _, length := range []int{1, 2, 5, 10, 30, 60, 110, api.MaxDigits} {
		results := 0
		for i, p := range polynomials(api.MaxDegree, length, uint64(length)+9) {
			for _, x := range append(append(numbers(), sample.Fractions(4, length, uint64(i))...), sample.LargeFractions()[i*5]) {
				got, want := numberOutcome(poly.Eval(p, x)), wantValue(p, x)
				if got != want {
					t.Errorf("Eval(%s, %s) = %s instead of %s", text(p), rational.Print(x), got, want)
				}
				if got != refused {
					results++
				}
			}
		}
		if results < 70 {
			t.Errorf("only %d results for %d digits", results, length)
		}
	}
}

// exactly returns the value of p at x.
func exactly(p []api.Ratio, x *big.Rat) *big.Rat {
	sum, power := new(big.Rat), big.NewRat(1, 1)
	for _, c := range p {
		sum.Add(sum, new(big.Rat).Mul(value(c), power))
		power.Mul(power, x)
	}
	return sum
}

// P7.2: values are added, subtracted and multiplied, and Eval returns them.
func TestValues(t *testing.T) {
	list := append(small(6, 11), polynomials(6, 3, 12)...)
	for i, p := range list {
		q := list[(i*5+2)%len(list)]
		sum, errSum := poly.Add(p, q)
		difference, errDifference := poly.Sub(p, q)
		both, errBoth := poly.Mul(p, q)
		if errSum != api.OK || errDifference != api.OK || errBoth != api.OK {
			t.Fatalf("%s and %s: %d, %d, %d", text(p), text(q), errSum, errDifference, errBoth)
		}
		for _, r := range numbers() {
			x := value(r)
			a, b := exactly(p, x), exactly(q, x)
			if exactly(sum, x).Cmp(new(big.Rat).Add(a, b)) != 0 || exactly(difference, x).Cmp(new(big.Rat).Sub(a, b)) != 0 || exactly(both, x).Cmp(new(big.Rat).Mul(a, b)) != 0 {
				t.Errorf("%s and %s have other values at %s", text(p), text(q), rational.Print(r))
			}
			if got, err := poly.Eval(p, r); err != api.OK || value(got).Cmp(a) != 0 {
				t.Errorf("Eval(%s, %s) = %s", text(p), rational.Print(r), numberOutcome(got, err))
			}
		}
	}
}

// P7.2: the laws of a ring.
func TestRing(t *testing.T) {
	list := append(small(4, 21), polynomials(4, 4, 22)...)
	one := parsed("1")
	for i, p := range list {
		for k, q := range list {
			s := list[(i*7+k*3)%len(list)]
			for n, c := range []struct{ left, right string }{
				{outcome(poly.Add(p, q)), outcome(poly.Add(q, p))}, {outcome(poly.Mul(p, q)), outcome(poly.Mul(q, p))},
				{chained(poly.Add, outcome(poly.Add(p, q)), text(s)), chained(poly.Add, text(p), outcome(poly.Add(q, s)))},
				{chained(poly.Mul, outcome(poly.Mul(p, q)), text(s)), chained(poly.Mul, text(p), outcome(poly.Mul(q, s)))},
				{chained(poly.Mul, text(p), outcome(poly.Add(q, s))), chained(poly.Add, outcome(poly.Mul(p, q)), outcome(poly.Mul(p, s)))},
				{chained(poly.Sub, outcome(poly.Add(p, q)), text(q)), text(p)}, {chained(poly.Add, text(p), outcome(poly.Sub(nil, q))), outcome(poly.Sub(p, q))},
				{outcome(poly.Add(p, nil)), text(p)}, {outcome(poly.Mul(p, one)), text(p)}, {outcome(poly.Mul(p, nil)), ""}, {outcome(poly.Sub(p, p)), ""},
			} {
				if c.left != c.right || c.left == refused {
					t.Errorf("law %d for %s, %s and %s: %s and %s", n, text(p), text(q), text(s), c.left, c.right)
				}
			}
		}
	}
}

// chained returns what operation returns for the polynomials with the texts p and
// q.
func chained(operation func(p, q []api.Ratio) ([]api.Ratio, api.Errno), p string, q string) string {
	if p == refused || q == refused {
		return refused
	}
	return outcome(operation(parsed(p), parsed(q)))
}

// P7.5: the derivative of a product is that of the first factor times the second
// one, plus the first one times the derivative of the second one.
func TestProductRule(t *testing.T) {
	list := append(small(6, 31), polynomials(6, 4, 32)...)
	for i, p := range list {
		for k := i % 2; k < len(list); k += 2 {
			q := list[k]
			both, errBoth := poly.Mul(p, q)
			dp, errP := poly.Derivative(p)
			dq, errQ := poly.Derivative(q)
			if errBoth != api.OK || errP != api.OK || errQ != api.OK {
				t.Fatalf("%s and %s: %d, %d, %d", text(p), text(q), errBoth, errP, errQ)
			}
			got, want := outcome(poly.Derivative(both)), chained(poly.Add, outcome(poly.Mul(dp, q)), outcome(poly.Mul(p, dq)))
			if got != want || got == refused {
				t.Errorf("the derivative of the product of %s and %s is %s instead of %s", text(p), text(q), got, want)
			}
		}
	}
}

// P7.5: from x to x + h, a polynomial grows by h times the derivative at x, plus
// h * h times a number that depends on h as a polynomial does.
func TestGrowth(t *testing.T) {
	for _, p := range append(small(6, 41), polynomials(6, 3, 42)...) {
		derivative, err := poly.Derivative(p)
		if err != api.OK {
			t.Fatal(text(p), err)
		}
		for _, x := range numbers() {
			// The polynomial in h whose value is that of p at x + h.
			shifted := parsed("")
			for i := len(p) - 1; i >= 0; i-- {
				shifted = must(t)(poly.Mul(shifted, []api.Ratio{x, number("1")}))
				shifted = must(t)(poly.Add(shifted, stripped([]api.Ratio{p[i]})))
			}
			for i, q := range [][]api.Ratio{p, derivative} {
				if got, err := poly.Eval(q, x); err != api.OK || got != of(shifted, i) {
					t.Errorf("%s at %s + h has the coefficient %s of the power %d instead of %s", text(p), rational.Print(x), rational.Print(of(shifted, i)), i, numberOutcome(got, err))
				}
			}
		}
	}
}

// must returns a function that returns its polynomial, and ends the test if there
// is none.
func must(t *testing.T) func(p []api.Ratio, err api.Errno) []api.Ratio {
	return func(p []api.Ratio, err api.Errno) []api.Ratio {
		t.Helper()
		if err != api.OK {
			t.Fatalf("an error: %d", err)
		}
		return p
	}
}

package rational_test

import (
	"strings"
	"testing"

	"workpiece/api"
	"workpiece/rational"
	"workpiece/sample"
)

// parsed returns the fraction with the text s.
func parsed(s string) api.Ratio {
	num, den, found := strings.Cut(s, "/")
	if !found {
		den = "1"
	}
	return api.Ratio{Num: num, Den: den}
}

// ones returns the integer of so many digits 1.
func ones(digits int) string { return strings.Repeat("1", digits) }

// P4.1: the examples of the chapter.
func TestArithmeticExamples(t *testing.T) {
	for _, c := range []struct{ got, want string }{
		{sum(parsed("1/2"), parsed("1/3")), "5/6"}, {difference(parsed("1/2"), parsed("1/2")), "0"}, {product(parsed("-2/3"), parsed("3/4")), "-1/2"},
		{quotient(parsed("1/2"), parsed("-1/4")), "-2"}, {quotient(parsed("1"), parsed("0")), refused}, {product(parsed(sample.Power(150)), parsed(sample.Power(150))), refused},
	} {
		if c.got != c.want {
			t.Errorf("%s instead of %s", c.got, c.want)
		}
	}
}

// P4.1: each of the integers that a definition names may be the one that has too
// many digits, even where the reduced result would not; and nothing else is too
// large.
func TestTooLarge(t *testing.T) {
	many, half := sample.Power(150), sample.Power(100)
	third := "1/3" + many[1:]
	for _, c := range []struct{ name, got, want string }{
		{"sum, left product", sum(parsed(many), parsed("1/"+sample.Power(50))), refused},
		{"sum, right product", sum(parsed("1/"+sample.Power(50)), parsed(many)), refused},
		{"sum, sum", sum(parsed(nines), parsed("1")), refused},
		{"sum, negative sum", sum(parsed("-"+nines), parsed("-1")), refused},
		{"sum, Den", sum(parsed("1/"+half), parsed("-1/"+half)), refused},
		{"sum of 0, Den", sum(parsed("1/"+nines), parsed("0")), "1/" + nines},
		{"sum", sum(parsed(sample.Power(199)), parsed("-"+nines)), "-8" + nines[1:]},
		{"difference, left product", difference(parsed(many), parsed("1/"+sample.Power(50))), refused},
		{"difference, right product", difference(parsed("1/"+sample.Power(50)), parsed(many)), refused},
		{"difference, difference", difference(parsed("-"+nines), parsed("1")), refused},
		{"difference, negative", difference(parsed(nines), parsed("-1")), refused},
		{"difference, Den", difference(parsed("1/"+half), parsed("1/"+half)), refused},
		{"difference, itself", difference(parsed(nines), parsed(nines)), "0"},
		{"product, Num", product(parsed(half), parsed(half+"/3")), refused},
		{"product, Den", product(parsed("1/"+half), parsed("3/"+half)), refused},
		{"product, reduced Num", product(parsed(half+"/7"), parsed(half+"/3")), refused},
		{"product, cancelled", product(parsed(third), parsed("3"+many[1:])), "1"},
		{"product, cancelled, Num", product(parsed("7"+half[1:]+"/3"), parsed("3"+half[1:]+"/7")), refused},
		{"product, cancelled, Den", product(parsed("3/7"+half[1:]), parsed("7/3"+half[1:])), refused},
		{"product", product(parsed(nines[:100]), parsed("-"+nines[:100])), "-" + nines[:99] + "8" + strings.Repeat("0", 99) + "1"},
		{"product of 0", product(parsed("0"), parsed(nines+"/"+sample.Power(199))), "0"},
		{"product of 0, Den", product(parsed("0"), parsed("1/"+nines)), "0"},
		{"quotient, Num", quotient(parsed(half), parsed("1/"+half)), refused},
		{"quotient, Den", quotient(parsed("1/"+half), parsed(half)), refused},
		{"quotient, itself", quotient(parsed(many), parsed(many)), "1"},
		{"quotient, itself, Num", quotient(parsed(half+"/"+nines[:101]), parsed(half+"/"+nines[:101])), refused},
		{"quotient of 0", quotient(parsed("0"), parsed("-"+nines)), "0"},
		{"quotient by 0", quotient(parsed(nines), parsed("0")), refused},
		{"quotient of 0 by 0", quotient(parsed("0"), parsed("0")), refused},
	} {
		if c.got != c.want {
			t.Errorf("%s: %s", c.name, c.got)
		}
	}
}

// P4.1: operations with what is not a valid fraction, on both sides.
func TestInvalidArguments(t *testing.T) {
	operations := []func(a, b api.Ratio) string{sum, difference, product, quotient}
	for _, r := range sample.InvalidFractions() {
		for _, s := range append(sample.InvalidFractions(), parsed("1"), parsed("0"), parsed("-3/7")) {
			for i, operation := range operations {
				if operation(r, s) != refused || operation(s, r) != refused {
					t.Errorf("operation %d of %.50q and %.50q", i, r, s)
				}
			}
			if rational.Compare(r, s) != 0 || rational.Compare(s, r) != 0 {
				t.Errorf("Compare of %.50q and %.50q", r, s)
			}
		}
	}
}

// checkPair checks the operations of a and b against numbers of any size.
func checkPair(t *testing.T, a, b api.Ratio) {
	t.Helper()
	for _, c := range []struct{ name, got, want string }{
		{"Add", sum(a, b), wantSum(a, b)},
		{"Sub", difference(a, b), wantDifference(a, b)},
		{"Mul", product(a, b), wantProduct(a, b)},
		{"Div", quotient(a, b), wantQuotient(a, b)},
	} {
		if c.got != c.want {
			t.Errorf("%s(%s, %s) = %s instead of %s", c.name, text(a), text(b), c.got, c.want)
		}
	}
	checkOrder(t, a, b)
}

// P4.1 to P4.4: all pairs of small fractions, and of those at the limit.
func TestAllPairs(t *testing.T) {
	for _, list := range [][]api.Ratio{sample.SmallFractions(8), sample.LargeFractions()} {
		for i, a := range list {
			for k, b := range list {
				if len(list) < 200 || (i+k)%12 == 0 || i == k {
					checkPair(t, a, b)
				}
			}
		}
	}
}

// P4.1 to P4.4: pairs of fractions of all lengths.
func TestPairs(t *testing.T) {
	for _, length := range []int{5, 20, 50, 66, 100, api.MaxDigits} {
		first, second := sample.Fractions(600, length, 6), sample.Fractions(600, length, 7)
		for i, a := range first {
			checkPair(t, a, second[i])
			checkPair(t, a, a)
			if i > 0 {
				checkPair(t, a, first[i-1])
			}
		}
	}
}

// chained returns what operation returns for the fractions with the texts s and
// u, unless one of them is refused.
func chained(operation func(a, b api.Ratio) string, s, u string) string {
	if s == refused || u == refused {
		return refused
	}
	return operation(parsed(s), parsed(u))
}

// P4.3: the laws of a field, wherever nothing is too large.
func TestField(t *testing.T) {
	list := append(append(sample.SmallFractions(3), sample.Fractions(10, 16, 8)...), sample.LargeFractions()[:6]...)
	compared := 0
	for _, a := range list {
		for _, b := range list {
			checkUndone(t, a, b)
			for _, c := range list {
				compared += checkLaws(t, text(a), text(b), text(c))
			}
		}
	}
	if compared < 2*len(list)*len(list)*len(list) {
		t.Errorf("only %d laws are compared", compared)
	}
}

// checkUndone checks that a and b commute, and that subtracting and dividing
// undo adding and multiplying.
func checkUndone(t *testing.T, a, b api.Ratio) {
	t.Helper()
	if sum(a, b) != sum(b, a) || product(a, b) != product(b, a) {
		t.Errorf("%s and %s do not commute", text(a), text(b))
	}
	zero := b.Num == "0"
	for _, c := range []struct {
		name, got string
		skipped   bool
	}{
		{"(a + b) - b", chained(difference, sum(a, b), text(b)), false},
		{"(a - b) + b", chained(sum, difference(a, b), text(b)), false},
		{"(a * b) / b", chained(quotient, product(a, b), text(b)), zero},
		{"(a / b) * b", chained(product, quotient(a, b), text(b)), zero},
	} {
		if !c.skipped && c.got != refused && c.got != text(a) {
			t.Errorf("%s of %s and %s: %s", c.name, text(a), text(b), c.got)
		}
	}
}

// checkLaws checks the laws of three fractions and returns how many of them it
// compared.
func checkLaws(t *testing.T, a, b, c string) int {
	t.Helper()
	compared := 0
	same := func(law, x, y string) {
		if x == refused || y == refused {
			return
		}
		compared++
		if x != y {
			t.Errorf("%s of %s, %s and %s: %s, %s", law, a, b, c, x, y)
		}
	}
	plus := func(x, y string) string { return chained(sum, x, y) }
	times := func(x, y string) string { return chained(product, x, y) }
	same("associative sum", plus(plus(a, b), c), plus(a, plus(b, c)))
	same("associative product", times(times(a, b), c), times(a, times(b, c)))
	same("distributive", times(a, plus(b, c)), plus(times(a, b), times(a, c)))
	return compared
}

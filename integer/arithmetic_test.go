package integer_test

import (
	"math/big"
	"strconv"
	"strings"
	"testing"

	"workpiece/api"
	"workpiece/integer"
	"workpiece/sample"
)

// P3.1: the examples of the chapter.
func TestArithmeticExamples(t *testing.T) {
	for _, c := range []struct{ got, want string }{
		{sum("999", "1"), "1000"}, {difference("1", "1000"), "-999"}, {product("-12", "12"), "-144"},
		{divisor("12", "-18"), "6"}, {root("99"), "9"}, {root("-1"), refused},
	} {
		if c.got != c.want {
			t.Errorf("%s instead of %s", c.got, c.want)
		}
	}
}

// P3.1: sums, differences and products where they nearly have too many digits.
func TestTooLarge(t *testing.T) {
	power := func(zeros int) string { return "1" + strings.Repeat("0", zeros) }
	for _, c := range []struct{ name, got, want string }{
		{"most + 0", sum(most, "0"), most},
		{"most + 1", sum(most, "1"), refused},
		{"most + most", sum(most, most), refused},
		{"most + -1", sum(most, "-1"), most[1:] + "8"},
		{"-most + -1", sum("-"+most, "-1"), refused},
		{"-most + most", sum("-"+most, most), "0"},
		{"most - -1", difference(most, "-1"), refused},
		{"-most - 1", difference("-"+most, "1"), refused},
		{"most - most", difference(most, most), "0"},
		{"most - -most", difference(most, "-"+most), refused},
		{"most * 1", product(most, "1"), most},
		{"most * -1", product(most, "-1"), "-" + most},
		{"most * 2", product(most, "2"), refused},
		{"most * 0", product(most, "0"), "0"},
		{"most * most", product(most, most), refused},
		{"-most * most", product("-"+most, most), refused},
		{"101 digits and 100", product(power(100), power(99)), power(199)},
		{"101 digits and 101", product(power(100), power(100)), refused},
		{"-101 digits and 101", product("-"+power(100), power(100)), refused},
		{"nines", product(most[:100], most[:100]), most[:99] + "8" + strings.Repeat("0", 99) + "1"},
		{"nines and one digit more", product(most[:101], most[:100]), refused},
	} {
		if c.got != c.want {
			t.Errorf("%s = %s", c.name, c.got)
		}
	}
}

// P3.1 and P3.2: all pairs of small numbers.
func TestArithmeticSmall(t *testing.T) {
	for a := -40; a <= 40; a++ {
		for b := -40; b <= 40; b++ {
			x, y := strconv.Itoa(a), strconv.Itoa(b)
			if sum(x, y) != strconv.Itoa(a+b) || difference(x, y) != strconv.Itoa(a-b) || product(x, y) != strconv.Itoa(a*b) {
				t.Errorf("%d and %d: %s, %s, %s", a, b, sum(x, y), difference(x, y), product(x, y))
			}
			if want := (&big.Int{}).Sub(number(x), number(y)).Sign(); integer.Compare(x, y) != want {
				t.Errorf("Compare(%d, %d) = %d", a, b, integer.Compare(x, y))
			}
		}
	}
}

// checkPair checks the functions of a and b against numbers of any size.
func checkPair(t *testing.T, a, b string) {
	t.Helper()
	x, y := number(a), number(b)
	for _, c := range []struct{ name, got, want string }{
		{"Add", sum(a, b), reference(new(big.Int).Add(x, y))},
		{"Sub", difference(a, b), reference(new(big.Int).Sub(x, y))},
		{"Mul", product(a, b), reference(new(big.Int).Mul(x, y))},
		{"Gcd", divisor(a, b), reference(new(big.Int).GCD(nil, nil, x, y))},
		{"Compare", strconv.Itoa(integer.Compare(a, b)), strconv.Itoa(x.Cmp(y))},
	} {
		if c.got != c.want {
			t.Errorf("%s(%s, %s) = %s", c.name, a, b, c.got)
		}
	}
	q, r, err := integer.Div(a, b)
	if y.Sign() == 0 {
		if q != "" || r != "" || err != api.ErrInteger {
			t.Errorf("Div(%s, %s) = %q, %q, %d", a, b, q, r, err)
		}
		return
	}
	wantQ, wantR := new(big.Int).DivMod(x, y, new(big.Int))
	if q != wantQ.String() || r != wantR.String() || err != api.OK {
		t.Errorf("Div(%s, %s) = %s, %s, %d", a, b, q, r, err)
	}
}

// P3.1 to P3.7: the numbers near the ends of groups and words, in all pairs.
func TestEdgePairs(t *testing.T) {
	list := edges()
	for _, a := range list {
		for _, b := range list {
			checkPair(t, a, b)
		}
	}
}

// P3.1 to P3.7: pairs of numbers of all lengths.
func TestPairs(t *testing.T) {
	for _, length := range []int{10, 30, 100, api.MaxDigits} {
		first, second := sample.Integers(3000, length, 3), sample.Integers(3000, length, 4)
		for i, a := range first {
			checkPair(t, a, second[i])
		}
	}
}

// P3.3: the laws of sums and products, wherever nothing is too large.
func TestLaws(t *testing.T) {
	list := append([]string{"0", "1", "-1", most, "-" + most}, sample.Integers(25, 60, 5)...)
	for _, a := range list {
		for _, b := range list {
			checkLaws(t, a, b)
			for _, c := range list {
				checkLawsOfThree(t, a, b, c)
			}
		}
	}
}

func checkLaws(t *testing.T, a, b string) {
	t.Helper()
	if sum(a, b) != sum(b, a) || product(a, b) != product(b, a) {
		t.Errorf("%s and %s do not commute", a, b)
	}
	if d := difference(a, b); d != refused && sum(b, d) != a {
		t.Errorf("%s - %s is not what is to be added", a, b)
	}
	if difference(a, b) != sum(a, negated(b)) {
		t.Errorf("%s - %s is not the sum with the negated number", a, b)
	}
}

func checkLawsOfThree(t *testing.T, a, b, c string) {
	t.Helper()
	same := func(law, x, y string) {
		if x != y && x != refused && y != refused {
			t.Errorf("%s of %s, %s and %s: %s, %s", law, a, b, c, x, y)
		}
	}
	same("associative sum", sum(sum(a, b), c), sum(a, sum(b, c)))
	same("associative product", product(product(a, b), c), product(a, product(b, c)))
	same("distributive", product(a, sum(b, c)), sum(product(a, b), product(a, c)))
}

// P3.7: adding the same keeps the order, which is the sign of the difference.
func TestOrder(t *testing.T) {
	list := append(edges(), sample.Integers(40, 60, 6)...)
	for i, a := range list {
		for k, b := range list {
			order := integer.Compare(a, b)
			if order != -integer.Compare(b, a) || (order == 0) != (a == b) {
				t.Errorf("Compare(%s, %s) = %d", a, b, order)
			}
			if d := difference(a, b); d != refused && integer.Compare(d, "0") != order {
				t.Errorf("%s - %s = %s", a, b, d)
			}
			c := list[(7*i+k)%len(list)]
			x, y := sum(a, c), sum(b, c)
			if x != refused && y != refused && integer.Compare(x, y) != order {
				t.Errorf("Compare(%s, %s) changes with %s", a, b, c)
			}
		}
	}
}

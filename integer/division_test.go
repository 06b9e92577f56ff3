package integer_test

import (
	"math/big"
	"strconv"
	"strings"
	"testing"

	"workpiece/api"
	"workpiece/integer"
	"workpiece/sample"
)

// P3.1: the examples of the chapter, division by 0, and the greatest quotients.
func TestDivKnown(t *testing.T) {
	for _, c := range []struct {
		a, b, q, r string
		err        api.Errno
	}{
		{"7", "2", "3", "1", api.OK}, {"-7", "2", "-4", "1", api.OK}, {"7", "-2", "-3", "1", api.OK}, {"-7", "-2", "4", "1", api.OK},
		{"6", "2", "3", "0", api.OK}, {"-6", "2", "-3", "0", api.OK}, {"6", "-2", "-3", "0", api.OK}, {"-6", "-2", "3", "0", api.OK},
		{"0", "5", "0", "0", api.OK}, {"0", "-5", "0", "0", api.OK}, {"3", "5", "0", "3", api.OK}, {"3", "-5", "0", "3", api.OK},
		{"-3", "5", "-1", "2", api.OK}, {"-3", "-5", "1", "2", api.OK},
		{"5", "0", "", "", api.ErrInteger}, {"0", "0", "", "", api.ErrInteger}, {"-" + most, "0", "", "", api.ErrInteger},
		{most, "1", most, "0", api.OK}, {most, "-1", "-" + most, "0", api.OK}, {"-" + most, "1", "-" + most, "0", api.OK}, {"-" + most, "-1", most, "0", api.OK},
		{"-" + most, "2", "-5" + strings.Repeat("0", 199), "1", api.OK}, {"-1", most, "-1", most[1:] + "8", api.OK}, {"-1", "-" + most, "1", most[1:] + "8", api.OK},
		{most, most, "1", "0", api.OK}, {most[1:], most, "0", most[1:], api.OK},
	} {
		if q, r, err := integer.Div(c.a, c.b); q != c.q || r != c.r || err != c.err {
			t.Errorf("Div(%s, %s) = %q, %q, %d", c.a, c.b, q, r, err)
		}
	}
}

// P3.4: for small numbers, the only remainder in the bounds.
func TestDivSmall(t *testing.T) {
	for a := -60; a <= 60; a++ {
		for b := -25; b <= 25; b++ {
			if b == 0 {
				continue
			}
			q, r, err := integer.Div(strconv.Itoa(a), strconv.Itoa(b))
			found := 0
			for rest := range max(b, -b) {
				if (a-rest)%b == 0 {
					found++
					if q != strconv.Itoa((a-rest)/b) || r != strconv.Itoa(rest) || err != api.OK {
						t.Errorf("Div(%d, %d) = %s, %s, %d", a, b, q, r, err)
					}
				}
			}
			if found != 1 {
				t.Errorf("%d remainders of %d by %d", found, a, b)
			}
		}
	}
}

// P3.4: the quotient times the divisor, plus the remainder, is the dividend, in
// the functions of the package.
func TestDivTheorem(t *testing.T) {
	dividends, divisors := sample.Integers(2000, api.MaxDigits, 7), sample.Integers(2000, 120, 8)
	for i, a := range dividends {
		b := divisors[i]
		q, r, err := integer.Div(a, b)
		if err != api.OK || sum(product(q, b), r) != a {
			t.Errorf("Div(%s, %s) = %s, %s, %d", a, b, q, r, err)
		}
		if integer.Compare(r, "0") < 0 || integer.Compare(r, strings.TrimPrefix(b, "-")) >= 0 {
			t.Errorf("Div(%s, %s) has the remainder %s", a, b, r)
		}
	}
}

// P3.4: dividends next to multiples of the divisor, where the groups of the
// quotient are the hardest to find: the leading groups of the divisor are at the
// ends of what they can be, and so are the groups of the quotient.
func TestDivNearMultiples(t *testing.T) {
	leads := []string{"1", "2", "9999", "100000000", "100000001", "999999999999", "999999999998", "100010000", "500000000000", "5000"}
	tails := []string{"0000", "0001", "9999", "9998", "5000", "00000000", "99999999", "00009999", "99990000"}
	quotients := []string{"1", "2", "5000", "9998", "9999", "10000", "10001", "99990000", "99999999", "100000000", "999900000000", "50005000", "49995000"}
	for i, lead := range leads {
		for k, tail := range tails {
			for size := range 4 {
				b := lead + tail + strings.Repeat(tail, size) + sample.Digits(1+4*size, uint64(20*i+k))
				for _, q := range quotients {
					checkMultiple(t, q, b)
				}
			}
		}
	}
}

// checkMultiple checks the quotients of numbers next to q times b by b.
func checkMultiple(t *testing.T, q, b string) {
	t.Helper()
	multiple := new(big.Int).Mul(number(q), number(b))
	for d := int64(-1); d <= 1; d++ {
		a := new(big.Int).Add(multiple, big.NewInt(d))
		wantQ, wantR := new(big.Int).DivMod(a, number(b), new(big.Int))
		gotQ, gotR, err := integer.Div(a.String(), b)
		if gotQ != wantQ.String() || gotR != wantR.String() || err != api.OK {
			t.Errorf("Div(%s, %s) = %s, %s, %d", a, b, gotQ, gotR, err)
		}
	}
}

// P3.5: for small numbers, the greatest of all common divisors.
func TestGcdSmall(t *testing.T) {
	for a := -30; a <= 30; a++ {
		for b := -30; b <= 30; b++ {
			want := 0
			for d := 1; d <= 30; d++ {
				if a%d == 0 && b%d == 0 && (a != 0 || b != 0) {
					want = d
				}
			}
			if got := divisor(strconv.Itoa(a), strconv.Itoa(b)); got != strconv.Itoa(want) {
				t.Errorf("Gcd(%d, %d) = %s", a, b, got)
			}
		}
	}
}

// P3.5: the divisor divides both arguments, and a known common divisor divides
// it; what it leaves of both has no common divisor but 1.
func TestGcdTheorem(t *testing.T) {
	commons, first, second := sample.Integers(600, 90, 9), sample.Integers(600, 100, 10), sample.Integers(600, 40, 11)
	for i, common := range commons {
		a, b := product(common, first[i]), product(common, second[i])
		g := divisor(a, b)
		for _, pair := range [][2]string{{a, g}, {b, g}, {g, common}} {
			if _, r, err := integer.Div(pair[0], pair[1]); r != "0" || err != api.OK {
				t.Errorf("Gcd(%s, %s) = %s: %s does not divide %s", a, b, g, pair[1], pair[0])
			}
		}
		x, _, _ := integer.Div(a, g)
		y, _, _ := integer.Div(b, g)
		if strings.HasPrefix(g, "-") || divisor(x, y) != "1" {
			t.Errorf("Gcd(%s, %s) = %s", a, b, g)
		}
	}
}

// P3.5: 0 is divided by everything; successive Fibonacci numbers take the most
// steps.
func TestGcdKnown(t *testing.T) {
	for _, c := range [][3]string{
		{"0", "0", "0"}, {"0", "-5", "5"}, {"-5", "0", "5"}, {"0", most, most}, {"-" + most, "0", most}, {"-" + most, most, most}, {most, "1", "1"},
		{"1" + strings.Repeat("0", 199), "4096", "4096"}, {"18446744073709551616", "4294967296", "4294967296"},
	} {
		if got := divisor(c[0], c[1]); got != c[2] {
			t.Errorf("Gcd(%s, %s) = %s", c[0], c[1], got)
		}
	}
	a, b := "0", "1"
	for next := "1"; next != refused; next = sum(a, b) {
		if divisor(a, b) != "1" || divisor(product(a, "12"), product(b, "-18")) == "1" {
			t.Errorf("Gcd(%s, %s)", a, b)
		}
		if a, b = b, next; len(b) > 190 {
			return
		}
	}
}

// P3.6: the square of the root is at most the argument, and the next square is
// greater.
func TestRoot(t *testing.T) {
	for _, s := range append(edges(), sample.Integers(2000, api.MaxDigits, 12)...) {
		got := root(s)
		n := number(s)
		if n.Sign() < 0 {
			if got != refused {
				t.Errorf("Root(%s) = %s", s, got)
			}
			continue
		}
		if got != new(big.Int).Sqrt(n).String() {
			t.Errorf("Root(%s) = %s", s, got)
		}
		next := product(sum(got, "1"), sum(got, "1"))
		if integer.Compare(product(got, got), s) > 0 || next != refused && integer.Compare(next, s) <= 0 {
			t.Errorf("Root(%s) = %s", s, got)
		}
	}
}

// P3.6: squares, and the numbers next to them.
func TestRootOfSquares(t *testing.T) {
	list := append(edges(), sample.Integers(1000, 100, 13)...)
	for n := range 200 {
		list = append(list, strconv.Itoa(n))
	}
	for _, s := range list {
		x := new(big.Int).Abs(number(s))
		square := new(big.Int).Mul(x, x)
		if x.Sign() == 0 || !fits(square) {
			continue
		}
		less := new(big.Int).Sub(x, big.NewInt(1)).String()
		if root(square.String()) != x.String() || root(sum(square.String(), "-1")) != less {
			t.Errorf("Root of the square of %s, or of the number before it", x)
		}
		if last := new(big.Int).Add(square, new(big.Int).Lsh(x, 1)); fits(last) && root(last.String()) != x.String() {
			t.Errorf("Root of the last number before the next square after that of %s", x)
		}
	}
}

// P3.2: every function that makes a number makes the same integer for it.
func TestOneForm(t *testing.T) {
	for _, s := range append(edges(), sample.Integers(300, 99, 14)...) {
		q, zero, _ := integer.Div(s, "1")
		all := []string{sum(s, "0"), sum("0", s), difference(s, "0"), product(s, "1"), product("-1", negated(s)), q}
		if number(s).Sign() >= 0 {
			_, r, _ := integer.Div(s, "1"+strings.Repeat("0", 199))
			if number(s).Cmp(number("1"+strings.Repeat("0", 199))) < 0 {
				all = append(all, r)
			}
			all = append(all, divisor(s, "0"))
		}
		if square := product(s, s); square != refused && number(s).Sign() >= 0 {
			all = append(all, root(square))
		}
		for i, got := range all {
			if got != s {
				t.Errorf("%d: %s for %s", i, got, s)
			}
		}
		for i, got := range []string{zero, difference(s, s), sum(s, negated(s)), product(s, "0"), product("0", s)} {
			if got != "0" {
				t.Errorf("%d: %s for 0, from %s", i, got, s)
			}
		}
	}
}

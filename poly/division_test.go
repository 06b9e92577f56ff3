package poly_test

import (
	"slices"
	"testing"

	"workpiece/api"
	"workpiece/poly"
)

// P7.3: the quotient times the divisor, plus the remainder, is the dividend, and
// the remainder has a lesser degree than the divisor.
func TestDivision(t *testing.T) {
	list := append(small(8, 1), polynomials(8, 2, 2)...)
	for _, p := range list {
		for _, q := range list {
			quotient, rest, err := poly.Div(p, q)
			if len(q) == 0 {
				if pairOutcome(quotient, rest, err) != refused {
					t.Errorf("Div(%s, zero) = %s", text(p), pairOutcome(quotient, rest, err))
				}
				continue
			}
			if err != api.OK || len(rest) >= len(q) || len(quotient) != max(0, len(p)-len(q)+1) {
				t.Errorf("Div(%s, %s) = %s", text(p), text(q), pairOutcome(quotient, rest, err))
				continue
			}
			if got := chained(poly.Add, outcome(poly.Mul(q, quotient)), text(rest)); got != text(p) {
				t.Errorf("%s times %s, plus %s, is %s instead of %s", text(q), text(quotient), text(rest), got, text(p))
			}
		}
	}
}

// P7.3: a product plus a lesser remainder is divided into both again.
func TestDivisionOfProducts(t *testing.T) {
	list := append(small(5, 3), polynomials(5, 2, 4)...)
	for i, q := range list {
		for k, quotient := range list {
			rest := list[(i*3+k*5)%len(list)]
			if len(rest) >= len(q) {
				continue
			}
			p := must(t)(poly.Add(product(q, quotient), rest))
			if got, want := pairOutcome(poly.Div(p, q)), text(quotient)+" and "+text(rest); got != want {
				t.Errorf("Div(%s, %s) = %s instead of %s", text(p), text(q), got, want)
			}
		}
	}
}

// divides reports whether d divides p.
func divides(d []api.Ratio, p []api.Ratio) bool {
	_, rest, err := poly.Div(p, d)
	return err == api.OK && len(rest) == 0
}

// P7.4: Gcd divides both, is divided by every common divisor, and is monic.
func TestGcd(t *testing.T) {
	factors := append(small(3, 5), polynomials(2, 1, 6)...)
	for i, p := range factors {
		for k, q := range factors {
			common := factors[(i*7+k*3)%len(factors)]
			if len(common) == 0 {
				common = parsed("-1 0 2")
			}
			a, b := product(p, common), product(q, common)
			gcd, err := poly.Gcd(a, b)
			switch {
			case len(a) == 0 && len(b) == 0:
				if outcome(gcd, err) != "" {
					t.Errorf("Gcd of zero and zero = %s", outcome(gcd, err))
				}
			case err != api.OK || !divides(gcd, a) || !divides(gcd, b) || !divides(common, gcd) || gcd[len(gcd)-1] != number("1"):
				t.Errorf("Gcd(%s, %s) = %s", text(a), text(b), outcome(gcd, err))
			}
			if other := outcome(poly.Gcd(b, a)); other != outcome(gcd, err) {
				t.Errorf("Gcd(%s, %s) = %s, and in the other order %s", text(a), text(b), outcome(gcd, err), other)
			}
		}
	}
}

// P7.4: of products of powers of polynomials without common divisors, Gcd is that
// of the lesser powers.
func TestGcdOfPowers(t *testing.T) {
	irreducible := []string{"0 1", "-1 1", "1/2 1", "-2 0 1", "1 0 1", "1 1 0 1"}
	for pattern := range 200 {
		var p, q, want [][]api.Ratio
		p, q = append(p, parsed("-3/2")), append(q, parsed("4"))
		degree := 0
		for i, s := range irreducible {
			a, b := pattern>>i&1+pattern>>(i+2)&1, pattern>>(i+1)&1+pattern*5>>i&1
			if degree += (len(parsed(s)) - 1) * max(a, b); degree > 12 {
				break
			}
			p = append(p, slices.Repeat([][]api.Ratio{parsed(s)}, a)...)
			q = append(q, slices.Repeat([][]api.Ratio{parsed(s)}, b)...)
			want = append(want, slices.Repeat([][]api.Ratio{parsed(s)}, min(a, b))...)
		}
		if got := outcome(poly.Gcd(product(p...), product(q...))); got != text(product(want...)) {
			t.Errorf("Gcd(%s, %s) = %s instead of %s", text(product(p...)), text(product(q...)), got, text(product(want...)))
		}
	}
}

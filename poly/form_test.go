package poly_test

import (
	"math"
	"slices"
	"testing"

	"workpiece/api"
	"workpiece/poly"
	"workpiece/sample"
)

// P7.1: polynomials of all degrees, and what is none.
func TestValid(t *testing.T) {
	for _, length := range []int{1, 5, 50, api.MaxDigits} {
		for _, p := range polynomials(api.MaxDegree, length, 1) {
			if !poly.Valid(p) {
				t.Errorf("Valid(%s) = false", text(p))
			}
		}
	}
	for _, p := range [][]api.Ratio{nil, {}, parsed(sample.Nines()), slices.Repeat(parsed("-1/2"), 13), append(slices.Repeat(parsed("0"), 12), number("1"))} {
		if !poly.Valid(p) {
			t.Errorf("Valid(%s) = false", text(p))
		}
	}
	for i, p := range strangers() {
		if poly.Valid(p) {
			t.Errorf("%d: Valid(%.80s) = true", i, text(p))
		}
	}
}

// functions returns all functions that have an error result, each for a
// polynomial.
func functions() map[string]func(p []api.Ratio) string {
	other := parsed("-2 0 1")
	return map[string]func(p []api.Ratio) string{
		"Add":         func(p []api.Ratio) string { return outcome(poly.Add(p, other)) },
		"Add, second": func(p []api.Ratio) string { return outcome(poly.Add(other, p)) },
		"Add, both":   func(p []api.Ratio) string { return outcome(poly.Add(p, p)) },
		"Add, zero":   func(p []api.Ratio) string { return outcome(poly.Add(nil, p)) },
		"Sub":         func(p []api.Ratio) string { return outcome(poly.Sub(p, other)) },
		"Sub, second": func(p []api.Ratio) string { return outcome(poly.Sub(other, p)) },
		"Sub, both":   func(p []api.Ratio) string { return outcome(poly.Sub(p, p)) },
		"Sub, zero":   func(p []api.Ratio) string { return outcome(poly.Sub(p, nil)) },
		"Mul":         func(p []api.Ratio) string { return outcome(poly.Mul(p, other)) },
		"Mul, second": func(p []api.Ratio) string { return outcome(poly.Mul(other, p)) },
		"Mul, zero":   func(p []api.Ratio) string { return outcome(poly.Mul(p, nil)) },
		"Mul, by 0":   func(p []api.Ratio) string { return outcome(poly.Mul(nil, p)) },
		"Div":         func(p []api.Ratio) string { return pairOutcome(poly.Div(p, other)) },
		"Div, second": func(p []api.Ratio) string { return pairOutcome(poly.Div(other, p)) },
		"Div, both":   func(p []api.Ratio) string { return pairOutcome(poly.Div(p, p)) },
		"Div, zero":   func(p []api.Ratio) string { return pairOutcome(poly.Div(nil, p)) },
		"Gcd":         func(p []api.Ratio) string { return outcome(poly.Gcd(p, other)) },
		"Gcd, second": func(p []api.Ratio) string { return outcome(poly.Gcd(other, p)) },
		"Gcd, zero":   func(p []api.Ratio) string { return outcome(poly.Gcd(p, nil)) },
		"Gcd, by 0":   func(p []api.Ratio) string { return outcome(poly.Gcd(nil, p)) },
		"Derivative":  func(p []api.Ratio) string { return outcome(poly.Derivative(p)) },
		"Eval":        func(p []api.Ratio) string { return numberOutcome(poly.Eval(p, number("0"))) },
		"Eval, 1/2":   func(p []api.Ratio) string { return numberOutcome(poly.Eval(p, number("1/2"))) },
		"Count":       func(p []api.Ratio) string { return countOutcome(poly.Count(p, number("-9"), number("9"))) },
		"Count, none": func(p []api.Ratio) string { return countOutcome(poly.Count(p, number("9"), number("9"))) },
		"Isolate":     func(p []api.Ratio) string { return listOutcome(poly.Isolate(p, number("-9"), number("9"), 2)) },
		"Isolate, 0":  func(p []api.Ratio) string { return listOutcome(poly.Isolate(p, number("9"), number("9"), 0)) },
	}
}

// P7.1: every function refuses what is no polynomial.
func TestStrangers(t *testing.T) {
	for i, p := range strangers() {
		for name, function := range functions() {
			if got := function(p); got != refused {
				t.Errorf("%d: %s of %.80s = %.80s", i, name, text(p), got)
			}
		}
	}
	for name, function := range functions() {
		if got := function(parsed("3 0 -1/2")); got == refused {
			t.Errorf("%s is refused", name)
		}
	}
}

// P7.1: every function refuses what is no valid fraction, even if the polynomial
// is zero or constant.
func TestInvalidNumbers(t *testing.T) {
	for i, r := range sample.InvalidFractions() {
		for _, p := range [][]api.Ratio{nil, parsed("7"), parsed("1 1"), parsed("0 0 0 1")} {
			for k, got := range []string{
				numberOutcome(poly.Eval(p, r)),
				countOutcome(poly.Count(p, r, number("1"))), countOutcome(poly.Count(p, number("-1"), r)), countOutcome(poly.Count(p, r, r)),
				listOutcome(poly.Isolate(p, r, number("1"), 1)), listOutcome(poly.Isolate(p, number("-1"), r, 1)), listOutcome(poly.Isolate(p, r, r, 1)),
			} {
				if got != refused {
					t.Errorf("%d, %d: %s instead of an error", i, k, got)
				}
			}
		}
	}
}

// P7.1: zero has no number of roots, the lower end must not be greater than the
// upper one, and the places must be from 0 to 30.
func TestRootsRefused(t *testing.T) {
	for _, lo := range numbers() {
		for _, hi := range numbers() {
			for _, p := range [][]api.Ratio{nil, parsed("7"), parsed("1 1"), parsed("-2 0 1")} {
				isRefused := len(p) == 0 || value(lo).Cmp(value(hi)) > 0
				if got := countOutcome(poly.Count(p, lo, hi)); (got == refused) != isRefused {
					t.Errorf("Count(%s, %s) = %s", text(p), text([]api.Ratio{lo, hi}), got)
				}
				for _, places := range []int{0, 1, 30} {
					if got := listOutcome(poly.Isolate(p, lo, hi, places)); (got == refused) != isRefused {
						t.Errorf("Isolate(%s, %s, %d) = %s", text(p), text([]api.Ratio{lo, hi}), places, got)
					}
				}
			}
		}
	}
	for _, places := range []int{math.MinInt, -1 << 32, -31, -30, -1, 31, 32, 200, 1 << 32, math.MaxInt} {
		for _, p := range [][]api.Ratio{nil, parsed("7"), parsed("1 1"), parsed("-2 0 1")} {
			if got := listOutcome(poly.Isolate(p, number("0"), number("2"), places)); got != refused {
				t.Errorf("Isolate(%s, 0, 2, %d) = %s", text(p), places, got)
			}
		}
	}
}

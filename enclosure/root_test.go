package enclosure_test

import (
	"math"
	"math/big"
	"testing"

	"workpiece/api"
	"workpiece/enclosure"
	"workpiece/sample"
)

// P5.1: the examples of the chapter, and roots at the limits.
func TestSqrtKnown(t *testing.T) {
	nines, power := sample.Nines(), sample.Power
	for _, c := range []struct {
		x      string
		places int
		want   string
	}{
		{"2 3", 1, "7/5 9/5"}, {"4", 3, "2"}, {"0", 0, "0"}, {"0", 30, "0"}, {"2", 0, "1 2"}, {"0 1/" + nines, 0, "0 1"}, {"1/" + nines, 30, "0 1/" + power(30)},
		{"1/4", 0, "0 1"}, {"1/4", 1, "1/2"}, {"3 4", 0, "1 2"}, {"4 5", 0, "2 3"}, {"0 1", 5, "0 1"}, {"1/9", 2, "33/100 17/50"}, {"16/9", 1, "13/10 7/5"},
		// A rest alone makes a root inexact, and so does a number that is no square.
		{"9/2", 0, "2 3"}, {"5", 0, "2 3"}, {"17/4", 0, "2 3"}, {"15/4", 0, "1 2"},
		{nines, 0, nines[:100] + " " + power(100)}, {nines + "/2", 0, "7071067811865475244008443621048490392848359376884740365883398689953662392310535194251937671638207863 7071067811865475244008443621048490392848359376884740365883398689953662392310535194251937671638207864"},
		{"0 " + nines, 1, refused}, {nines[:140], 30, nines[:100] + "/" + power(30) + " " + power(70)}, {power(138), 30, power(69)}, {"0 " + nines[:138], 30, "0 " + power(69)},
		{power(140), 30, refused}, {"0 " + power(140), 30, refused}, {"1 " + power(140) + "/7", 30, refused}, {power(140), 29, power(70)}, {power(198) + "/7", 1, refused},
		{"-1/" + nines + " 1", 5, refused}, {"-1", 0, refused}, {"-1 0", 0, refused}, {"-4 -1", 2, refused},
	} {
		if got := outcome(enclosure.Sqrt(span(c.x), c.places)); got != c.want {
			t.Errorf("Sqrt(%s, %d) = %s instead of %s", c.x, c.places, got, c.want)
		}
	}
	for _, places := range []int{math.MinInt, -1, api.MaxPlaces + 1, 1 << 32, math.MaxInt} {
		for _, s := range []string{"0", "1", "2 3", "-1"} {
			if got := outcome(enclosure.Sqrt(span(s), places)); got != refused {
				t.Errorf("Sqrt(%s, %d) = %s", s, places, got)
			}
		}
	}
}

// units returns 1 followed by so many zeros.
func units(places int) *big.Int {
	return new(big.Int).Exp(big.NewInt(10), big.NewInt(int64(places)), nil)
}

// wantSqrt returns what Sqrt is to return for the valid interval x.
func wantSqrt(x api.Interval, places int) string {
	t := units(places)
	var roots []api.Ratio
	for _, r := range []api.Ratio{x.Lo, x.Hi} {
		v := value(r)
		scaled := new(big.Int).Mul(v.Num(), new(big.Int).Mul(t, t))
		if scaled.Sign() < 0 || len(scaled.String()) > api.MaxDigits {
			return refused
		}
		// The root of a floor is that of the fraction itself.
		root := new(big.Int).Sqrt(new(big.Int).Div(scaled, v.Denom()))
		square := new(big.Int).Mul(new(big.Int).Mul(root, root), v.Denom())
		if len(roots) == 1 && square.Cmp(scaled) < 0 {
			root.Add(root, big.NewInt(1))
		}
		roots = append(roots, ofValue(new(big.Rat).SetFrac(root, t)))
	}
	return text(api.Interval{Lo: roots[0], Hi: roots[1]})
}

// checkSqrt checks Sqrt of x against numbers of any size, and what P5.5 says of
// it. It returns how many results there are.
func checkSqrt(t *testing.T, x api.Interval, places int) int {
	t.Helper()
	root, err := enclosure.Sqrt(x, places)
	if got, want := outcome(root, err), wantSqrt(x, places); got != want {
		t.Errorf("Sqrt(%s, %d) = %s instead of %s", text(x), places, got, want)
		return 0
	}
	if err != api.OK {
		return 0
	}
	step := new(big.Rat).SetFrac(big.NewInt(1), units(places))
	lo, hi := value(root.Lo), value(root.Hi)
	for _, v := range []*big.Rat{lo, hi} {
		if v.Sign() < 0 || !new(big.Rat).Quo(v, step).IsInt() {
			t.Errorf("Sqrt(%s, %d) = %s", text(x), places, text(root))
		}
	}
	above, below := new(big.Rat).Add(lo, step), new(big.Rat).Sub(hi, step)
	square := func(v *big.Rat) *big.Rat { return new(big.Rat).Mul(v, v) }
	if square(lo).Cmp(value(x.Lo)) > 0 || square(above).Cmp(value(x.Lo)) <= 0 {
		t.Errorf("Sqrt(%s, %d) begins with %s", text(x), places, lo)
	}
	if square(hi).Cmp(value(x.Hi)) < 0 || value(x.Hi).Sign() > 0 && square(below).Cmp(value(x.Hi)) >= 0 {
		t.Errorf("Sqrt(%s, %d) ends with %s", text(x), places, hi)
	}
	return 1
}

// P5.1 and P5.5: intervals of all lengths, with all numbers of places.
func TestSqrt(t *testing.T) {
	list := append(smalls(4), between(sample.LargeFractions())...)
	for _, length := range []int{2, 20, 70, api.MaxDigits} {
		list = append(list, between(sample.Fractions(40, length, 7))...)
	}
	results := 0
	for i, x := range list {
		for places := i % 5; places <= api.MaxPlaces; places += 5 {
			results += checkSqrt(t, x, places)
			results += checkSqrt(t, api.Interval{Lo: span("0").Lo, Hi: x.Hi}, min(places, 30*max(0, value(x.Hi).Sign())))
		}
	}
	if results < len(list) {
		t.Errorf("only %d roots", results)
	}
}

// P5.5: the roots of squares, and of what is a little less or greater, contain the
// root.
func TestSqrtOfSquares(t *testing.T) {
	little := new(big.Rat).SetFrac(big.NewInt(1), units(25))
	list := append(sample.SmallFractions(6), sample.Fractions(40, 12, 8)...)
	for _, r := range list {
		v := new(big.Rat).Abs(value(r))
		square := new(big.Rat).Mul(v, v)
		lo, hi := new(big.Rat).Sub(square, little), new(big.Rat).Add(square, little)
		for i, x := range []api.Interval{
			{Lo: ofValue(square), Hi: ofValue(square)}, {Lo: ofValue(square), Hi: ofValue(hi)}, {Lo: ofValue(lo), Hi: ofValue(square)}, {Lo: ofValue(lo), Hi: ofValue(hi)},
		} {
			if value(x.Lo).Sign() < 0 {
				continue
			}
			for places := i; places <= api.MaxPlaces; places += 3 {
				checkSqrt(t, x, places)
				if root, err := enclosure.Sqrt(x, places); err != api.OK || !enclosure.Contains(root, ofValue(v)) {
					t.Errorf("Sqrt(%s, %d) = %s does not contain %s", text(x), places, outcome(root, err), v)
				}
			}
		}
	}
}

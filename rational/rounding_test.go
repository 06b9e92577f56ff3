package rational_test

import (
	"math"
	"math/big"
	"testing"

	"workpiece/api"
	"workpiece/rational"
	"workpiece/sample"
)

func down(r api.Ratio, places int) string { return outcome(rational.Down(r, places)) }
func up(r api.Ratio, places int) string   { return outcome(rational.Up(r, places)) }

// P4.1: the examples of the chapter, and the ends of what can be rounded.
func TestRoundingKnown(t *testing.T) {
	for _, c := range []struct {
		r        string
		places   int
		down, up string
	}{
		{"1/3", 2, "33/100", "17/50"}, {"-1/3", 2, "-17/50", "-33/100"}, {"7", 3, "7", "7"}, {"-7", 0, "-7", "-7"}, {"0", 0, "0", "0"}, {"0", 30, "0", "0"},
		{"5/2", 0, "2", "3"}, {"-5/2", 0, "-3", "-2"}, {"1/2", 0, "0", "1"}, {"-1/2", 0, "-1", "0"}, {"1/8", 3, "1/8", "1/8"}, {"1/8", 2, "3/25", "13/100"},
		{"1/" + sample.Power(30), 30, "1/" + sample.Power(30), "1/" + sample.Power(30)}, {"1/" + sample.Power(31), 30, "0", "1/" + sample.Power(30)}, {"-1/" + nines, 30, "-1/" + sample.Power(30), "0"},
		{nines, 0, nines, nines}, {"-" + nines, 0, "-" + nines, "-" + nines}, {nines, 1, refused, refused}, {nines[:170], 30, nines[:170], nines[:170]}, {nines[:171], 30, refused, refused},
		{nines + "/2", 0, "4" + nines[1:], "5" + sample.Power(199)[1:]}, {"-" + nines + "/2", 0, "-5" + sample.Power(199)[1:], "-4" + nines[1:]}, {nines + "/" + sample.Power(199), 1, refused, refused},
	} {
		if got := down(parsed(c.r), c.places); got != c.down {
			t.Errorf("Down(%s, %d) = %s", c.r, c.places, got)
		}
		if got := up(parsed(c.r), c.places); got != c.up {
			t.Errorf("Up(%s, %d) = %s", c.r, c.places, got)
		}
	}
}

// P4.1: places outside of the limits, and fractions that are not valid.
func TestRoundingRefused(t *testing.T) {
	for _, places := range []int{math.MinInt, -31, -1, api.MaxPlaces + 1, 1000, 1 << 32, math.MaxInt} {
		for _, s := range []string{"0", "1", "-1/3"} {
			if down(parsed(s), places) != refused || up(parsed(s), places) != refused {
				t.Errorf("%s is rounded to %d places", s, places)
			}
		}
	}
	for _, r := range sample.InvalidFractions() {
		for _, places := range []int{-1, 0, 5, api.MaxPlaces, math.MaxInt} {
			if down(r, places) != refused || up(r, places) != refused {
				t.Errorf("%.50q is rounded to %d places", r, places)
			}
		}
	}
}

// P4.1 and P4.5: fractions of all lengths, to all numbers of places.
func TestRounding(t *testing.T) {
	list := append(sample.SmallFractions(9), sample.LargeFractions()...)
	for _, length := range []int{4, 40, 85, 100, api.MaxDigits} {
		list = append(list, sample.Fractions(40, length, 12)...)
	}
	for _, denominator := range []string{"8", "125", sample.Power(5), sample.Power(29), sample.Power(30), sample.Power(31), "4" + sample.Power(30)[1:]} {
		list = append(list, sample.Fraction("12345", denominator), sample.Fraction("-1", denominator), sample.Fraction(nines[:50], denominator))
	}
	for _, r := range list {
		for places := range api.MaxPlaces + 1 {
			checkRounding(t, r, places)
		}
	}
}

// checkRounding checks Down and Up of r against numbers of any size, and what
// P4.5 says of them.
func checkRounding(t *testing.T, r api.Ratio, places int) {
	t.Helper()
	below, above := down(r, places), up(r, places)
	if below != wantRounded(r, places, false) || above != wantRounded(r, places, true) {
		t.Errorf("%s to %d places: %s, %s", text(r), places, below, above)
		return
	}
	if below == refused {
		return
	}
	if above != text(negated(parsed(down(negated(r), places)))) {
		t.Errorf("Up(%s, %d) = %s is not minus Down of minus it", text(r), places, above)
	}
	unit := new(big.Rat).SetFrac(big.NewInt(1), number(sample.Power(places)))
	low, high := value(parsed(below)), value(parsed(above))
	for _, v := range []*big.Rat{low, high} {
		if !new(big.Rat).Quo(v, unit).IsInt() {
			t.Errorf("%s to %d places: %s", text(r), places, v)
		}
	}
	step := new(big.Rat).Sub(high, low)
	exact := new(big.Rat).Quo(value(r), unit).IsInt()
	if low.Cmp(value(r)) > 0 || high.Cmp(value(r)) < 0 || exact != (step.Sign() == 0) || !exact && step.Cmp(unit) != 0 {
		t.Errorf("%s to %d places: %s, %s", text(r), places, below, above)
	}
	for _, s := range []string{below, above} {
		for _, again := range []string{down(parsed(s), places), up(parsed(s), places)} {
			if again != s && again != refused {
				t.Errorf("%s, rounded again to %d places: %s", s, places, again)
			}
		}
	}
}

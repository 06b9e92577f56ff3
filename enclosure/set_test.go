package enclosure_test

import (
	"math"
	"math/big"
	"testing"

	"workpiece/api"
	"workpiece/enclosure"
	"workpiece/rational"
	"workpiece/sample"
)

// P5.1: the examples of the chapter, and the ends of what is possible.
func TestSetsKnown(t *testing.T) {
	nines := sample.Nines()
	for i, c := range []struct{ got, want string }{
		{outcome(enclosure.Meet(span("1 2"), span("2 5"))), "2"},
		{outcome(enclosure.Meet(span("1 2"), span("3 5"))), refused},
		{outcome(enclosure.Meet(span("3 5"), span("1 2"))), refused},
		{outcome(enclosure.Meet(span("1 4"), span("2 3"))), "2 3"},
		{outcome(enclosure.Meet(span("-"+nines+" "+nines), span("-1/"+nines+" 1/"+nines))), "-1/" + nines + " 1/" + nines},
		{outcome(enclosure.Meet(span("1/"+nines+" 1"), span("0 1/"+sample.Power(199)))), "1/" + nines + " 1/" + sample.Power(199)},
		{outcome(enclosure.Meet(span("1/"+sample.Power(199)+" 1"), span("0 1/"+nines))), refused},
		{outcome(enclosure.Hull(span("1 2"), span("3 5"))), "1 5"},
		{outcome(enclosure.Hull(span("3 5"), span("1 2"))), "1 5"},
		{outcome(enclosure.Hull(span("1 4"), span("2 3"))), "1 4"},
		{outcome(enclosure.Hull(span("-"+nines), span(nines))), "-" + nines + " " + nines},
		{outcome(enclosure.Round(span("1/3 2/3"), 1)), "3/10 7/10"},
		{outcome(enclosure.Round(span("-1/3 2/3"), 0)), "-1 1"},
		{outcome(enclosure.Round(span("1/4"), 1)), "1/5 3/10"},
		{outcome(enclosure.Round(span("1/4"), 2)), "1/4"},
		{outcome(enclosure.Round(span(nines[:170]), 30)), nines[:170]},
		{outcome(enclosure.Round(span("0 "+nines[:171]), 30)), refused},
		{outcome(enclosure.Round(span("-"+nines[:171]+" 0"), 30)), refused},
	} {
		if c.got != c.want {
			t.Errorf("%d: %s instead of %s", i, c.got, c.want)
		}
	}
}

// checkSets checks Hull and Meet of a and b, and what of l they contain.
func checkSets(t *testing.T, a, b api.Interval, l []api.Ratio) {
	t.Helper()
	hull, err := enclosure.Hull(a, b)
	if outcome(hull, err) == refused || !enclosure.Within(a, hull) || !enclosure.Within(b, hull) {
		t.Errorf("Hull(%s, %s) = %s", text(a), text(b), outcome(hull, err))
	}
	if hull.Lo != a.Lo && hull.Lo != b.Lo || hull.Hi != a.Hi && hull.Hi != b.Hi {
		t.Errorf("Hull(%s, %s) = %s", text(a), text(b), text(hull))
	}
	meet, err := enclosure.Meet(a, b)
	got := outcome(meet, err)
	if apart := value(a.Hi).Cmp(value(b.Lo)) < 0 || value(b.Hi).Cmp(value(a.Lo)) < 0; apart != (got == refused) {
		t.Errorf("Meet(%s, %s) = %s", text(a), text(b), got)
	}
	for _, r := range append(l, a.Lo, a.Hi, b.Lo, b.Hi) {
		both := contains(a, value(r)) && contains(b, value(r))
		if both != (got != refused && contains(meet, value(r))) {
			t.Errorf("Meet(%s, %s) = %s, with %s", text(a), text(b), got, rational.Print(r))
		}
	}
}

// P5.1 and P5.6: hulls and meets of small intervals and of large ones.
func TestSets(t *testing.T) {
	small := sample.SmallFractions(3)
	for _, a := range smalls(2) {
		for _, b := range smalls(2) {
			checkSets(t, a, b, small)
		}
	}
	for _, l := range [][]api.Ratio{sample.LargeFractions(), sample.Fractions(30, 30, 9), sample.Fractions(30, api.MaxDigits, 10)} {
		list := between(l)
		for i, a := range list {
			for _, step := range []int{1, 50} {
				checkSets(t, a, list[(i+step)%len(list)], l[:12])
			}
		}
	}
}

// P5.1: Width is the difference of the ends, as long as that is not too large.
func TestWidth(t *testing.T) {
	list := append(smalls(4), between(sample.LargeFractions())...)
	for _, x := range append(list, between(sample.Fractions(60, 110, 11))...) {
		got, err := enclosure.Width(x)
		if _, errExact := rational.Sub(x.Hi, x.Lo); errExact != api.OK {
			if got != (api.Ratio{}) || err != api.ErrEnclosure {
				t.Errorf("Width(%s) = %.50q, %d", text(x), got, err)
			}
			continue
		}
		if want := ofValue(new(big.Rat).Sub(value(x.Hi), value(x.Lo))); got != want || err != api.OK {
			t.Errorf("Width(%s) = %.50q, %d", text(x), got, err)
		}
	}
}

// P5.1 and P5.6: Round moves each end outward, by less than 1 / t.
func TestRound(t *testing.T) {
	list := append(smalls(4), between(sample.LargeFractions()[:100])...)
	list = append(list, between(sample.Fractions(60, 60, 12))...)
	results := 0
	for i, x := range list {
		for places := i % 4; places <= api.MaxPlaces; places += 4 {
			round, err := enclosure.Round(x, places)
			lo, errLo := rational.Down(x.Lo, places)
			hi, errHi := rational.Up(x.Hi, places)
			if errLo != api.OK || errHi != api.OK {
				if outcome(round, err) != refused {
					t.Errorf("Round(%s, %d) = %s", text(x), places, outcome(round, err))
				}
				continue
			}
			if err != api.OK || round != (api.Interval{Lo: lo, Hi: hi}) {
				t.Errorf("Round(%s, %d) = %s", text(x), places, outcome(round, err))
				continue
			}
			results++
			checkRounded(t, x, round, places)
		}
	}
	if results < 2*len(list) {
		t.Errorf("only %d results", results)
	}
}

// checkRounded checks that round contains x, has multiples of 1 / t as ends, and
// is wider by less than 2 / t.
func checkRounded(t *testing.T, x, round api.Interval, places int) {
	t.Helper()
	step := new(big.Rat).SetFrac(big.NewInt(1), units(places))
	if !enclosure.Within(x, round) {
		t.Errorf("Round(%s, %d) = %s", text(x), places, text(round))
	}
	for _, r := range []api.Ratio{round.Lo, round.Hi} {
		if !new(big.Rat).Quo(value(r), step).IsInt() {
			t.Errorf("Round(%s, %d) = %s", text(x), places, text(round))
		}
	}
	width := func(x api.Interval) *big.Rat { return new(big.Rat).Sub(value(x.Hi), value(x.Lo)) }
	wider := new(big.Rat).Sub(width(round), width(x))
	if wider.Cmp(new(big.Rat).Add(step, step)) >= 0 {
		t.Errorf("Round(%s, %d) = %s is wider by %s", text(x), places, text(round), wider)
	}
}

// P5.1: places outside of the limits.
func TestRoundPlaces(t *testing.T) {
	for _, places := range []int{math.MinInt, -1, api.MaxPlaces + 1, 1 << 32, math.MaxInt} {
		for _, s := range []string{"0", "1/3 2/3", "-7"} {
			if got := outcome(enclosure.Round(span(s), places)); got != refused {
				t.Errorf("Round(%s, %d) = %s", s, places, got)
			}
		}
	}
}

package enclosure_test

import (
	"math/big"
	"testing"

	"workpiece/api"
	"workpiece/enclosure"
	"workpiece/rational"
	"workpiece/sample"
)

// P5.1: valid intervals, and the others.
func TestValid(t *testing.T) {
	list := append(smalls(5), between(sample.LargeFractions())...)
	for _, x := range append(list, between(sample.Fractions(200, api.MaxDigits, 1))...) {
		if !enclosure.Valid(x) {
			t.Errorf("Valid(%s) = false", text(x))
		}
		back := api.Interval{Lo: x.Hi, Hi: x.Lo}
		if enclosure.Valid(back) != (x.Lo == x.Hi) {
			t.Errorf("Valid(%s %s) = %t", rational.Print(x.Hi), rational.Print(x.Lo), enclosure.Valid(back))
		}
	}
	for _, x := range invalid() {
		if enclosure.Valid(x) {
			t.Errorf("Valid(%.50q) = true", x)
		}
	}
}

// P5.1: the interval of one fraction.
func TestPoint(t *testing.T) {
	for _, r := range append(sample.SmallFractions(8), sample.LargeFractions()...) {
		if got := enclosure.Point(r); got != (api.Interval{Lo: r, Hi: r}) {
			t.Errorf("Point(%s) = %q", rational.Print(r), got)
		}
	}
	for _, r := range sample.InvalidFractions() {
		if got := enclosure.Point(r); got != (api.Interval{}) {
			t.Errorf("Point(%.50q) = %.50q", r, got)
		}
	}
}

// P5.1: the fractions of small intervals and of large ones, both ends included.
func TestContains(t *testing.T) {
	for _, list := range [][]api.Ratio{sample.SmallFractions(4), sample.LargeFractions()[:60], sample.Fractions(40, api.MaxDigits, 2)} {
		for _, x := range between(list) {
			for _, r := range list {
				if got := enclosure.Contains(x, r); got != contains(x, value(r)) {
					t.Errorf("Contains(%s, %s) = %t", text(x), rational.Print(r), got)
				}
			}
		}
	}
}

// P5.1: an interval lies within another one if both of its ends do.
func TestWithin(t *testing.T) {
	for _, list := range [][]api.Interval{smalls(2), between(sample.LargeFractions()[:30]), between(sample.Fractions(20, api.MaxDigits, 3))} {
		for _, a := range list {
			for _, b := range list {
				want := contains(b, value(a.Lo)) && contains(b, value(a.Hi))
				if got := enclosure.Within(a, b); got != want {
					t.Errorf("Within(%s, %s) = %t", text(a), text(b), got)
				}
			}
		}
	}
}

// P5.1: nothing is in an interval that is not valid, nor is what is not valid in
// any.
func TestInvalidContents(t *testing.T) {
	one, all := span("1"), span("-100 100")
	for _, x := range invalid() {
		for _, r := range []api.Ratio{one.Lo, x.Lo, x.Hi} {
			if enclosure.Contains(x, r) {
				t.Errorf("Contains(%.50q, %.50q)", x, r)
			}
		}
		if enclosure.Within(x, all) || enclosure.Within(one, x) || enclosure.Within(x, x) {
			t.Errorf("Within of %.50q", x)
		}
	}
	for _, r := range sample.InvalidFractions() {
		if enclosure.Contains(all, r) || enclosure.Contains(api.Interval{Lo: r, Hi: r}, r) {
			t.Errorf("Contains %.50q", r)
		}
	}
}

// P5.1: functions of what is not a valid interval, on both sides.
func TestInvalidArguments(t *testing.T) {
	functions := append(calculations(), binary{name: "Hull", enclosed: enclosure.Hull}, binary{name: "Meet", enclosed: enclosure.Meet})
	for i, x := range invalid() {
		for _, y := range []api.Interval{span("1 2"), span("-3/7"), x, invalid()[(i*7+5)%len(invalid())]} {
			for _, f := range functions {
				if outcome(f.enclosed(x, y)) != refused || outcome(f.enclosed(y, x)) != refused {
					t.Errorf("%s of %.50q and %.50q", f.name, x, y)
				}
			}
		}
		for _, places := range []int{-1, 0, 3, api.MaxPlaces} {
			if outcome(enclosure.Sqrt(x, places)) != refused || outcome(enclosure.Round(x, places)) != refused {
				t.Errorf("Sqrt or Round of %.50q to %d places", x, places)
			}
		}
		if w, err := enclosure.Width(x); w != (api.Ratio{}) || err != api.ErrEnclosure {
			t.Errorf("Width(%.50q) = %.50q, %d", x, w, err)
		}
	}
}

// P5.1: an interval with the end 0 contains 0, and is no divisor.
func TestZero(t *testing.T) {
	for _, c := range []struct {
		x    string
		want bool
	}{{"0", true}, {"-1 0", true}, {"0 1", true}, {"-1/3 1/7", true}, {"1/" + sample.Nines() + " 1", false}, {"-1 -1/" + sample.Nines(), false}} {
		if got := enclosure.Contains(span(c.x), ofValue(new(big.Rat))); got != c.want {
			t.Errorf("Contains(%s, 0) = %t", c.x, got)
		}
		if got := outcome(enclosure.Div(span("0 1"), span(c.x))) == refused; got != c.want {
			t.Errorf("Div by %s is refused: %t", c.x, got)
		}
	}
}

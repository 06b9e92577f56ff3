package tower_test

import (
	"slices"
	"testing"

	"workpiece/api"
	"workpiece/rational"
	"workpiece/sample"
	"workpiece/tower"
)

// P6.1: the examples of the chapter, and elements near 0.
func TestSignKnown(t *testing.T) {
	for _, c := range []struct{ tower, element, want string }{
		{"2", "3 -2", "1"}, {"2", "1 -1", "-1"}, {"2", "0 0", "0"}, {"2; 3 2", "1 1 -1 0", "0"},
		{"", "-1/3", "-1"}, {"", "0", "0"}, {"", "1/" + sample.Nines(), "1"},
		{"2", "0 1", "1"}, {"2", "0 -1", "-1"}, {"2", "1 0", "1"}, {"2", "-1 0", "-1"}, {"2", "1 1", "1"}, {"2", "-1 -1", "-1"}, {"2", "-3 2", "-1"}, {"2", "-1 1", "1"},
		{"2", "99 -70", "1"}, {"2", "-99 70", "-1"}, {"2", "41 -29", "-1"}, {"2", "-41 29", "1"},
		{"4", "2 -1", "0"}, {"4", "-2 1", "0"}, {"4", "3 -1", "1"}, {"4", "1 -1", "-1"},
		{"2; 3 2", "1 1 -100000/99999 0", "-1"}, {"2; 3 2", "1 1 -99999/100000 0", "1"}, {"2; 3 2", "2 1 0 -1", "0"}, {"2; 3 0", "0 1 -1 0", "-1"}, {"2; 3 0", "3 -1 -1 0", "-1"}, {"2; 3 0", "22 -7 -7 0", "-1"}, {"2; 3 0", "22 -5 -8 0", "1"},
		{"2; 3 0; 5 0 0 2", "0 1 1 0 -1 0 0 0", "0"}, {"2; 3 0; 5 0 0 2", "1/1000000 1 1 0 -1 0 0 0", "1"}, {"2; 3 0; 5 0 0 2", "-1/1000000 1 1 0 -1 0 0 0", "-1"},
	} {
		if got := signOutcome(tower.Sign(sample.Tower(c.tower), sample.Numbers(c.element))); got != c.want {
			t.Errorf("Sign of %s in %s = %s", c.element, c.tower, got)
		}
	}
	if got := signOutcome(tower.Compare(sample.Tower("2"), sample.Numbers("0 7"), sample.Numbers("10 0"))); got != "-1" {
		t.Errorf("Compare = %s", got)
	}
}

// P6.2: Sign is the sign of the real number, also where its value is 0 although
// its coefficients are not.
func TestSign(t *testing.T) {
	for i, s := range sample.Extensions() {
		u := sample.Tower(s.Text)
		v := valuerOf(u)
		for _, vanishing := range s.Vanishing {
			if got := signOutcome(tower.Sign(u, sample.Numbers(vanishing))); got != "0" {
				t.Errorf("Sign of %s in %s = %s", vanishing, s.Text, got)
			}
		}
		vanished := 0
		for _, a := range s.Small(40, uint64(i)+400) {
			for _, b := range products(t, u, s, a) {
				got, err := tower.Sign(u, b)
				if want := v.sign(b); err == api.OK && got != want {
					t.Errorf("Sign of %s in %s = %d instead of %d", text(b), s.Text, got, want)
				}
				if err == api.OK && got == 0 {
					vanished++
				}
			}
		}
		if vanished < 1+20*len(s.Vanishing) {
			t.Errorf("%s: only %d elements have the value 0", s.Text, vanished)
		}
	}
}

// products returns a, and its products with the elements of s that have the value
// 0.
func products(t *testing.T, u api.Tower, s sample.Extension, a []api.Ratio) [][]api.Ratio {
	out := [][]api.Ratio{a}
	for _, vanishing := range s.Vanishing {
		b, err := tower.Mul(u, a, sample.Numbers(vanishing))
		if err != api.OK {
			t.Errorf("%s times %s is too large", text(a), vanishing)
			continue
		}
		out = append(out, b)
	}
	return out
}

// P6.2: convergents of the square root of 2 are nearer and nearer to it, on both
// sides.
func TestSignConvergents(t *testing.T) {
	x, y, want := sample.Numbers("1"), sample.Numbers("1"), -1
	two := sample.Numbers("2")
	none := api.Tower{}
	for n := range 240 {
		a := []api.Ratio{x[0], y[0]}
		got, err := tower.Sign(sample.Tower("2"), []api.Ratio{a[0], negated(a[1])})
		if err == api.OK && got != want || err != api.OK && len(x[0].Num) < 100 {
			t.Errorf("%d: Sign of %s - %s * sqrt(2) = %d, %d", n, x[0].Num, y[0].Num, got, err)
		}
		double, _ := tower.Mul(none, two, y)
		sum, _ := tower.Add(none, x, y)
		x, _ = tower.Add(none, x, double)
		y, want = sum, -want
	}
}

// negated returns minus r.
func negated(r api.Ratio) api.Ratio {
	out, err := rational.Sub(sample.Numbers("0")[0], r)
	if err != api.OK {
		panic("not a fraction")
	}
	return out
}

// P6.6: Compare is the order of the values, which is a total one.
func TestCompare(t *testing.T) {
	for i, s := range sample.Extensions() {
		u := sample.Tower(s.Text)
		v := valuerOf(u)
		list := s.Small(80/size(u)+4, uint64(i)+500)
		slices.SortFunc(list, func(a, b []api.Ratio) int {
			got, err := tower.Compare(u, a, b)
			if back, errBack := tower.Compare(u, b, a); err != errBack || got != -back {
				t.Errorf("Compare of %s and %s in %s = %d, %d", text(a), text(b), s.Text, got, back)
			}
			if err != api.OK {
				t.Errorf("%s and %s in %s are too large", text(a), text(b), s.Text)
			}
			return got
		})
		for k, a := range list {
			for m := k; m < len(list); m += 1 + k%4 {
				want := order(v.of(a), v.of(list[m]))
				if got, err := tower.Compare(u, a, list[m]); err != api.OK || got != want || want > 0 {
					t.Errorf("Compare of %s and %s in %s = %d instead of %d", text(a), text(list[m]), s.Text, got, want)
				}
			}
		}
	}
}

// P6.6: adding the same, and multiplying by the same positive element, keeps the
// order; multiplying by one with the value 0 makes all equal.
func TestMonotonic(t *testing.T) {
	for i, s := range sample.Extensions() {
		u := sample.Tower(s.Text)
		list := s.Small(24/size(u)+4, uint64(i)+600)
		compared, tried := 0, 0
		for k, a := range list {
			for m, b := range list {
				c := list[(k+m*3)%len(list)]
				want, err := tower.Compare(u, a, b)
				sign, errSign := tower.Sign(u, c)
				if err != api.OK || errSign != api.OK {
					t.Errorf("%s and %s in %s are too large", text(a), text(b), s.Text)
					continue
				}
				compared += checkKept(t, u, tower.Add, a, b, c, want)
				compared += checkKept(t, u, tower.Mul, a, b, c, want*sign)
				tried += 2
			}
		}
		if compared < tried*3/4 {
			t.Errorf("%s: only %d of %d are compared", s.Text, compared, tried)
		}
	}
}

// checkKept checks that what operate makes of a and c, and of b and c, has the
// order want and returns 1, or returns 0 if something is too large.
func checkKept(t *testing.T, u api.Tower, operate func(api.Tower, []api.Ratio, []api.Ratio) ([]api.Ratio, api.Errno), a, b, c []api.Ratio, want int) int {
	t.Helper()
	x, errX := operate(u, a, c)
	y, errY := operate(u, b, c)
	got, err := tower.Compare(u, x, y)
	if errX != api.OK || errY != api.OK || err != api.OK {
		return 0
	}
	if got != want {
		t.Errorf("Compare of %s and %s in %s = %d instead of %d, with %s", text(a), text(b), towerText(u), got, want, text(c))
	}
	return 1
}

// P6.6: fractions are ordered as by rational.Compare, in every tower.
func TestCompareFractions(t *testing.T) {
	list := append(append(sample.SmallFractions(2), sample.Fractions(6, 20, 7)...), sample.LargeFractions()[:30]...)
	for _, s := range sample.Extensions() {
		u := sample.Tower(s.Text)
		for i, r := range list {
			for k := i % 3; k < len(list); k += 3 {
				a, errA := tower.FromRatio(u, r)
				b, errB := tower.FromRatio(u, list[k])
				got, err := tower.Compare(u, a, b)
				if _, tooLarge := rational.Sub(r, list[k]); tooLarge != api.OK {
					if got != 0 || err != api.ErrTower {
						t.Errorf("Compare of %s and %s in %s = %d, %d", text(a), text(b), s.Text, got, err)
					}
					continue
				}
				if errA != api.OK || errB != api.OK || err != api.OK || got != rational.Compare(r, list[k]) {
					t.Errorf("Compare of %s and %s in %s = %d, %d", text(a), text(b), s.Text, got, err)
				}
			}
		}
	}
}

package tower_test

import (
	"math"
	"slices"
	"strings"
	"testing"

	"workpiece/api"
	"workpiece/rational"
	"workpiece/sample"
	"workpiece/tower"
)

// P6.1: valid towers, and the others.
func TestValid(t *testing.T) {
	for _, s := range sample.Extensions() {
		if !tower.Valid(sample.Tower(s.Text)) {
			t.Errorf("Valid(%s) = false", s.Text)
		}
	}
	for i, u := range sample.InvalidTowers() {
		if tower.Valid(u) {
			t.Errorf("%d: Valid(%s) = true", i, towerText(u))
		}
	}
}

// P6.1: a sign that can be determined without the norm is not too large; one that
// needs it is, and so is a norm of a norm.
func TestValidTooLarge(t *testing.T) {
	many, half := sample.Power(100), sample.Power(60)
	for _, c := range []struct {
		tower string
		want  bool
	}{
		{"2; " + many + " " + many, true}, {"2; " + many + " 0", true}, {"2; 0 " + many, true}, {sample.Nines(), true}, {"1/" + sample.Nines(), true},
		{"2; " + many + " -1", false}, {"2; -1 " + many, false}, {many + "; 2 -1", false}, {sample.Power(99) + "; " + sample.Power(60) + " -1", true},
		{"2; 3 0; " + half + " 1 1 1", true}, {"2; 3 0; " + half + " 0 -1 0", true}, {"2; 3 0; " + half + " -1 0 0", true}, {"2; 3 0; " + half + " -1 -1 0", false}, {"2; 3 0; " + half + " 1 -1 0", true},
	} {
		if got := tower.Valid(sample.Tower(c.tower)); got != c.want {
			t.Errorf("Valid(%s) = %t", c.tower, got)
		}
		zeros := slices.Repeat(sample.Numbers("0"), size(sample.Tower(c.tower)))
		if got := signOutcome(tower.Sign(sample.Tower(c.tower), zeros)); (got != refused) != c.want {
			t.Errorf("Sign of 0 in %s = %s", c.tower, got)
		}
	}
}

// P6.1: the level is the number of the radicands, whatever they are.
func TestLevel(t *testing.T) {
	for _, s := range sample.Extensions() {
		want := 0
		if s.Text != "" {
			want = 1 + strings.Count(s.Text, ";")
		}
		if got := tower.Level(sample.Tower(s.Text)); got != want {
			t.Errorf("Level(%s) = %d", s.Text, got)
		}
	}
	for _, n := range []int{1, 4, 5, 1000} {
		if got := tower.Level(api.Tower{Radicands: make([][]api.Ratio, n)}); got != n {
			t.Errorf("%d instead of %d", got, n)
		}
	}
}

// functions returns all functions that have an error result, each for a tower and
// an element of it.
func functions() map[string]func(u api.Tower, a []api.Ratio) string {
	other := func(u api.Tower) []api.Ratio { return slices.Repeat(sample.Numbers("2"), 1<<min(len(u.Radicands), 5)) }
	return map[string]func(u api.Tower, a []api.Ratio) string{
		"Embed":           func(u api.Tower, a []api.Ratio) string { return outcome(tower.Embed(u, a)) },
		"Add":             func(u api.Tower, a []api.Ratio) string { return outcome(tower.Add(u, a, other(u))) },
		"Add, second":     func(u api.Tower, a []api.Ratio) string { return outcome(tower.Add(u, other(u), a)) },
		"Sub":             func(u api.Tower, a []api.Ratio) string { return outcome(tower.Sub(u, a, other(u))) },
		"Sub, second":     func(u api.Tower, a []api.Ratio) string { return outcome(tower.Sub(u, other(u), a)) },
		"Mul":             func(u api.Tower, a []api.Ratio) string { return outcome(tower.Mul(u, a, other(u))) },
		"Mul, second":     func(u api.Tower, a []api.Ratio) string { return outcome(tower.Mul(u, other(u), a)) },
		"Add, both":       func(u api.Tower, a []api.Ratio) string { return outcome(tower.Add(u, a, a)) },
		"Sub, both":       func(u api.Tower, a []api.Ratio) string { return outcome(tower.Sub(u, a, a)) },
		"Mul, both":       func(u api.Tower, a []api.Ratio) string { return outcome(tower.Mul(u, a, a)) },
		"Inverse":         func(u api.Tower, a []api.Ratio) string { return outcome(tower.Inverse(u, a)) },
		"Sign":            func(u api.Tower, a []api.Ratio) string { return signOutcome(tower.Sign(u, a)) },
		"Compare":         func(u api.Tower, a []api.Ratio) string { return signOutcome(tower.Compare(u, a, other(u))) },
		"Compare, second": func(u api.Tower, a []api.Ratio) string { return signOutcome(tower.Compare(u, other(u), a)) },
		"Compare, both":   func(u api.Tower, a []api.Ratio) string { return signOutcome(tower.Compare(u, a, a)) },
		"Extend":          func(u api.Tower, a []api.Ratio) string { return towerOutcome(tower.Extend(u, a)) },
		"Enclose":         func(u api.Tower, a []api.Ratio) string { return intervalOutcome(tower.Enclose(u, a, 3)) },
		"Enclose, 0":      func(u api.Tower, a []api.Ratio) string { return intervalOutcome(tower.Enclose(u, a, 0)) },
		"Rational": func(u api.Tower, a []api.Ratio) string {
			r, ok := tower.Rational(u, a)
			switch {
			case ok:
				return rational.Print(r)
			case r == api.Ratio{}:
				return refused
			}
			return "a wrong result: " + r.Num + "/" + r.Den
		},
	}
}

// P6.1: every function refuses a tower that is not valid, whatever the elements.
func TestInvalidTowers(t *testing.T) {
	for i, u := range sample.InvalidTowers() {
		n := 1 << min(len(u.Radicands), 6)
		elements := [][]api.Ratio{nil, sample.Numbers("1"), sample.Numbers("1 1"), slices.Repeat(sample.Numbers("1"), n), slices.Repeat(sample.Numbers("0"), n), slices.Repeat([]api.Ratio{{}}, n)}
		for name, function := range functions() {
			for _, a := range elements {
				if got := function(u, a); got != refused {
					t.Errorf("%d: %s in %.80s = %s", i, name, towerText(u), got)
				}
			}
		}
		for _, r := range sample.Numbers("0 1 -1/2") {
			if got := outcome(tower.FromRatio(u, r)); got != refused {
				t.Errorf("%d: FromRatio = %s", i, got)
			}
		}
		if got := outcome(tower.Root(u)); got != refused {
			t.Errorf("%d: Root = %s", i, got)
		}
	}
}

// P6.1: every function but Embed refuses what is no element of the tower.
func TestStrangers(t *testing.T) {
	for _, s := range sample.Extensions() {
		u := sample.Tower(s.Text)
		for _, a := range strangers(u) {
			shorter := len(a) > 0 && len(a) < size(u) && len(a)&(len(a)-1) == 0
			for name, function := range functions() {
				if name == "Embed" && shorter {
					continue
				}
				if got := function(u, a); got != refused {
					t.Errorf("%s of %.80s in %s = %s", name, text(a), s.Text, got)
				}
			}
		}
		for _, r := range sample.InvalidFractions() {
			if got := outcome(tower.FromRatio(u, r)); got != refused {
				t.Errorf("FromRatio of %.50q in %s = %s", r, s.Text, got)
			}
		}
	}
}

// P6.1: fractions of all sizes become elements, and are found again.
func TestFromRatio(t *testing.T) {
	list := append(append(sample.SmallFractions(4), sample.LargeFractions()[:40]...), sample.Fractions(10, api.MaxDigits, 1)...)
	for _, s := range sample.Extensions() {
		u := sample.Tower(s.Text)
		for _, r := range list {
			a, err := tower.FromRatio(u, r)
			if want := rational.Print(r) + strings.Repeat(" 0", size(u)-1); outcome(a, err) != want {
				t.Errorf("FromRatio(%s, %s) = %s", s.Text, rational.Print(r), outcome(a, err))
			}
			if back, ok := tower.Rational(u, a); back != r || !ok {
				t.Errorf("Rational of %s in %s = %s, %t", text(a), s.Text, rational.Print(back), ok)
			}
		}
	}
}

// P6.1: an element is rational if all of its coefficients but the first one are 0,
// which one with a rational value need not be.
func TestRational(t *testing.T) {
	for _, s := range sample.Extensions() {
		u := sample.Tower(s.Text)
		for _, a := range s.All(12, 5, 2) {
			r, ok := tower.Rational(u, a)
			want := !slices.ContainsFunc(a[1:], func(r api.Ratio) bool { return r.Num != "0" })
			if ok != want || ok && r != a[0] || !ok && r != (api.Ratio{}) {
				t.Errorf("Rational of %s in %s = %.50q, %t", text(a), s.Text, r, ok)
			}
		}
		for i := range size(u) {
			a := slices.Repeat(sample.Numbers("0"), size(u))
			a[i] = sample.Numbers("-7/3")[0]
			if _, ok := tower.Rational(u, a); ok != (i == 0) {
				t.Errorf("Rational of %s in %s: %t", text(a), s.Text, ok)
			}
		}
	}
}

// P6.1: the examples of the chapter, and all lengths of elements of a tower of
// level 4.
func TestEmbed(t *testing.T) {
	u := sample.Tower("2; 3 2")
	if got := outcome(tower.Embed(u, sample.Numbers("5"))); got != "5 0 0 0" {
		t.Error(got)
	}
	if got := outcome(tower.Embed(u, sample.Numbers("1 2 3"))); got != refused {
		t.Error(got)
	}
	for _, s := range sample.Extensions() {
		u := sample.Tower(s.Text)
		for length := range 40 {
			a := sample.Fractions(length, 9, uint64(length))
			want := refused
			if length > 0 && length&(length-1) == 0 && length <= size(u) {
				want = text(a) + strings.Repeat(" 0", size(u)-length)
			}
			if got := outcome(tower.Embed(u, a)); got != want {
				t.Errorf("Embed of %d coefficients in %s = %s", length, s.Text, got)
			}
		}
	}
	for i, r := range sample.InvalidFractions() {
		for length := 1; length <= 16; length *= 2 {
			a := slices.Repeat(sample.Numbers("3"), length)
			a[i%length] = r
			if got := outcome(tower.Embed(sample.Tower("2; 3 0; 5 0 0 0; 7 0 0 0 0 0 0 0"), a)); got != refused {
				t.Errorf("Embed of %.50q = %s", a, got)
			}
		}
	}
}

// P6.1: Extend adds the radicands of each tower, one after the other, if they are
// positive.
func TestExtend(t *testing.T) {
	for _, s := range sample.Extensions() {
		var u api.Tower
		for i, d := range sample.Tower(s.Text).Radicands {
			longer, err := tower.Extend(u, d)
			if err != api.OK || !tower.Valid(longer) || tower.Level(longer) != i+1 {
				t.Errorf("Extend of %s by %s: %s", towerText(u), text(d), towerOutcome(longer, err))
			}
			u = longer
		}
		if towerText(u) != s.Text {
			t.Errorf("%s instead of %s", towerText(u), s.Text)
		}
		r := referenceOf(u)
		for _, d := range s.All(16, 4, 3) {
			want := refused
			if len(u.Radicands) < api.MaxLevel && r.sign(len(u.Radicands), numberOf(d)) == 1 {
				want = strings.TrimPrefix(s.Text+"; "+text(d), "; ")
			}
			if got := towerOutcome(tower.Extend(u, d)); got != want {
				t.Errorf("Extend of %s by %s: %s", s.Text, text(d), got)
			}
		}
	}
	if got := towerOutcome(tower.Extend(sample.Tower("2"), sample.Numbers("1 -1"))); got != refused {
		t.Error(got)
	}
	if got := towerOutcome(tower.Extend(sample.Tower("2"), sample.Numbers(sample.Power(100)+" -1"))); got != refused {
		t.Error(got)
	}
}

// P6.1: the root of the last radicand, of which level 0 has none.
func TestRoot(t *testing.T) {
	for _, s := range sample.Extensions() {
		u, want := sample.Tower(s.Text), refused
		if half := size(u) / 2; half > 0 {
			want = strings.Repeat("0 ", half) + "1" + strings.Repeat(" 0", half-1)
		}
		if got := outcome(tower.Root(u)); got != want {
			t.Errorf("Root(%s) = %s", s.Text, got)
		}
	}
}

// P6.1: places outside of the limits, in towers of all levels.
func TestEnclosePlaces(t *testing.T) {
	for _, s := range sample.Extensions() {
		u := sample.Tower(s.Text)
		for _, a := range s.All(2, 3, 4) {
			for _, places := range []int{math.MinInt, math.MinInt + 10, -11, -10, -1, 21, 22, 30, 31, 1 << 32, math.MaxInt - 10, math.MaxInt} {
				if got := intervalOutcome(tower.Enclose(u, a, places)); got != refused {
					t.Errorf("Enclose(%s, %s, %d) = %s", s.Text, text(a), places, got)
				}
			}
			for _, places := range []int{0, 20} {
				if got := intervalOutcome(tower.Enclose(u, a, places)); got == refused {
					t.Errorf("Enclose(%s, %s, %d) is refused", s.Text, text(a), places)
				}
			}
		}
	}
}

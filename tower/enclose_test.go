package tower_test

import (
	"testing"

	"workpiece/api"
	"workpiece/sample"
	"workpiece/tower"
)

// P6.1: the examples of the chapter, and the order in which Enclose rounds.
func TestEncloseKnown(t *testing.T) {
	nines := sample.Nines()
	for i, c := range []struct {
		tower, element string
		places         int
		want           string
	}{
		{"2", "0 1", 2, "141/100 71/50"}, {"2", "0 -1", 2, "-71/50 -141/100"}, {"2", "1 1", 0, "2 3"}, {"4", "0 1", 3, "2 2"}, {"4", "2 -1", 20, "0 0"},
		{"", "1/3", 0, "0 1"}, {"", "1/3", 3, "333/1000 167/500"}, {"", "-7", 20, "-7 -7"}, {"", "1/8", 2, "3/25 13/100"}, {"2", "1/8 0", 2, "3/25 13/100"},
		// The element is 0, which its enclosure cannot tell.
		{"2; 3 2", "1 1 -1 0", 0, "-1 1"}, {"2; 3 2", "1 1 -1 0", 5, "-1/100000 1/100000"},
		// The root is enclosed with ten places more, and then made longer.
		{"2", "0 100000000", 2, "14142135623/100 3535533906/25"},
		// The enclosure of the radicand contains negative fractions.
		{"2; 1023286908188737 -723573111879672", "1 0 0 0", 0, refused}, {"2; 1023286908188737 -723573111879672", "0 0 0 0", 0, refused}, {"2; 1023286908188737 -723573111879672", "1 0 0 0", 20, "1 1"},
		// The computations are too large where Num has too many digits.
		{"", nines[:180], 20, nines[:180] + " " + nines[:180]}, {"", nines[:181], 20, refused}, {"", nines, 0, nines + " " + nines},
		{"2", nines[:180] + " 0", 0, nines[:180] + " " + nines[:180]}, {"2", nines[:190] + " 0", 0, nines[:190] + " " + nines[:190]}, {"2", nines[:191] + " 0", 0, refused},
		{nines[:180], "0 0", 0, "0 0"}, {nines[:181], "0 0", 0, refused}, {nines[:140], "1 0", 20, "1 1"}, {nines[:141], "1 0", 20, refused},
	} {
		if got := intervalOutcome(tower.Enclose(sample.Tower(c.tower), sample.Numbers(c.element), c.places)); got != c.want && got != c.want+" "+c.want {
			t.Errorf("%d: Enclose(%s, %s, %d) = %s instead of %s", i, c.tower, c.element, c.places, got, c.want)
		}
	}
}

// P6.1: elements of all towers, with coefficients of all lengths, and all places.
func TestEnclose(t *testing.T) {
	for _, length := range []int{1, 3, 10, 30, 60, 110, api.MaxDigits} {
		results := 0
		for i, s := range sample.Extensions() {
			u := sample.Tower(s.Text)
			for k, a := range s.All(8/size(u)+1, length, uint64(length+i)) {
				for places := k % 7; places <= 20; places += 7 {
					got, want := intervalOutcome(tower.Enclose(u, a, places)), wantEnclosed(u, a, places)
					if got != want {
						t.Errorf("Enclose(%s, %s, %d) = %s instead of %s", s.Text, text(a), places, got, want)
					}
					if got != refused {
						results++
					}
				}
			}
		}
		if results < 150 {
			t.Errorf("only %d results for %d digits", results, length)
		}
	}
}

// P6.7: Enclose contains the value, with more places in narrower intervals; an
// interval that does not contain 0 tells the sign.
func TestEncloseContains(t *testing.T) {
	for i, s := range sample.Extensions() {
		u := sample.Tower(s.Text)
		v := valuerOf(u)
		told := 0
		for _, a := range s.All(6, 4, uint64(i)+700) {
			for places := 0; places <= 20; places += 5 {
				x, err := tower.Enclose(u, a, places)
				if err != api.OK || order(realOf(x.Lo), v.of(a)) > 0 || order(v.of(a), realOf(x.Hi)) > 0 {
					t.Errorf("Enclose(%s, %s, %d) = %s", s.Text, text(a), places, intervalOutcome(x, err))
					continue
				}
				checkEnds(t, u, a, x)
				if x.Lo.Num[0] != '-' && x.Lo.Num != "0" || x.Hi.Num[0] == '-' {
					told++
				}
			}
		}
		if told < 16 {
			t.Errorf("%s: only %d intervals tell the sign", s.Text, told)
		}
	}
}

// checkEnds checks that the interval x, which encloses a, has a between its ends
// as Compare sees it, and that Sign agrees with the signs of the ends.
func checkEnds(t *testing.T, u api.Tower, a []api.Ratio, x api.Interval) {
	t.Helper()
	lo, errLo := tower.FromRatio(u, x.Lo)
	hi, errHi := tower.FromRatio(u, x.Hi)
	if errLo != api.OK || errHi != api.OK {
		t.Errorf("%s: %d, %d", text([]api.Ratio{x.Lo, x.Hi}), errLo, errHi)
	}
	toLo, errLo := tower.Compare(u, lo, a)
	toHi, errHi := tower.Compare(u, a, hi)
	if errLo == api.OK && toLo > 0 || errHi == api.OK && toHi > 0 {
		t.Errorf("%s is not between the ends %s in %s", text(a), text([]api.Ratio{x.Lo, x.Hi}), towerText(u))
	}
	least, _ := tower.Sign(u, lo)
	greatest, _ := tower.Sign(u, hi)
	sign, err := tower.Sign(u, a)
	if err == api.OK && (sign < least || sign > greatest) {
		t.Errorf("%s with the ends %s in %s has the sign %d", text(a), text([]api.Ratio{x.Lo, x.Hi}), towerText(u), sign)
	}
}

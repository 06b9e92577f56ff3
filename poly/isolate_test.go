package poly_test

import (
	"math/big"
	"strings"
	"testing"

	"workpiece/api"
	"workpiece/poly"
	"workpiece/rational"
	"workpiece/sample"
)

// P7.1: intervals of which the definition tells which ones they are.
func TestIsolateKnown(t *testing.T) {
	for i, c := range []struct {
		p, lo, hi string
		places    int
		want      string
	}{
		{"-1 2", "0", "1", 0, "[0, 1]"}, {"-1 2", "0", "1", 1, "[1/2, 1/2]"}, {"-1 2", "1/2", "1", 0, ""}, {"-1 2", "0", "1/2", 0, "[1/2, 1/2]"}, {"-1 2", "1/2", "1/2", 0, ""}, {"-1 2", "0", "1/2", 30, "[1/2, 1/2]"},
		{"0 1", "-1", "1", 0, "[0, 0]"}, {"0 1", "-2", "1", 0, "[-1/2, 1/4]"}, {"0 1", "-1", "0", 0, "[0, 0]"}, {"0 1", "0", "1", 0, ""}, {"0 1", "-3", "2", 0, "[-1/2, 1/8]"},
		// The lower end is a root, which must not be in the interval of another one.
		{"0 -1 4", "0", "1", 0, "[1/4, 1/4]"}, {"0 -1 3", "0", "1", 0, "[1/4, 1/2]"}, {"0 -1 3", "-1", "1", 0, "[0, 0][1/4, 1/2]"}, {"0 -1 1000", "0", "1", 0, "[1/1024, 1/512]"}, {"0 -1 0 0 3", "-1", "1", 0, "[0, 0][1/2, 1]"},
		// Intervals that are as wide as they may be, and a little wider ones.
		{"-2 0 1", "1", "2", 0, "[1, 2]"}, {"-2 0 1", "99/100", "2", 0, "[99/100, 299/200]"}, {"-2 0 1", "7/5", "3/2", 1, "[7/5, 3/2]"}, {"-2 0 1", "139/100", "3/2", 1, "[139/100, 289/200]"},
		// Intervals with a common end.
		{"3 -8 4", "0", "2", 0, "[0, 1][1, 2]"}, {"3 -8 4", "0", "2", 1, "[1/2, 1/2][3/2, 3/2]"}, {"2 -9 9", "0", "1", 0, "[0, 1/2][1/2, 1]"}, {"2 -9 9", "0", "1", 1, "[5/16, 3/8][5/8, 11/16]"},
		// A repeated root is in one interval.
		{"1 -4 4", "0", "1", 0, "[0, 1]"}, {"4 0 -4 0 1", "0", "2", 1, "[11/8, 23/16]"}, {"0 0 0 0 0 0 0 0 0 0 0 0 1", "-1", "1", 30, "[0, 0]"},
		{"1 0 1", "-5", "5", 0, ""}, {"7", "-5", "5", 30, ""}, {"-3 1", "3", "3", 30, ""}, {"-3 1", "2", "3", 30, "[3, 3]"},
		{"-1 3", "0", "1", 30, "[422550200076076467165567735125/1267650600228229401496703205376, 211275100038038233582783867563/633825300114114700748351602688]"},
		{"", "0", "1", 0, refused}, {"0 1", "1", "0", 0, refused}, {"0 1", "0", "1", -1, refused}, {"0 1", "0", "1", 31, refused},
	} {
		if got := listOutcome(poly.Isolate(parsed(c.p), number(c.lo), number(c.hi), c.places)); got != c.want {
			t.Errorf("%d: Isolate(%s, %s, %s, %d) = %s instead of %s", i, c.p, c.lo, c.hi, c.places, got, c.want)
		}
	}
}

// P7.1: what is too large: the ends, their difference, which is computed only if
// there is one root, their sum, and the values on the way to a root.
func TestIsolateTooLarge(t *testing.T) {
	nines := sample.Nines()
	// The double of this number is too large, its square and its half are not.
	many := "98" + strings.Repeat("0", 98) + "/7" + strings.Repeat("0", 98) + "1"
	for i, c := range []struct {
		p, lo, hi string
		places    int
		isRefused bool
	}{
		{"0 1", "-" + nines, nines, 0, true}, {"1", "-" + nines, nines, 0, false}, {"-1 0 1", "-" + many, many, 0, false},
		// The values at an end, and a common end.
		{"1 0 1", "-1", sample.Power(99), 0, false}, {"1 0 1", "-1", sample.Power(100), 0, true}, {"-2 1", "1/" + nines, "1", 0, true}, {"-1 1", "1/" + nines, "1", 0, false},
		{"-1 1", "0", "2/" + nines[:199], 0, false}, {"0 1", "-1", "1/" + nines, 0, true},
		// The root is so near to the lower end that no interval has an end between them.
		{"0 -1 " + sample.Power(199), "0", "1", 0, true}, {"0 -1 " + sample.Power(60), "0", "1", 0, false},
		// No number between the two roots has a square with few enough digits.
		{text(product(parsed("-1 3"), parsed("-"+nines[:40]+"/"+sample.Power(40)+" 3"))), "0", "3", 0, false}, {text(product(parsed("-1 3"), parsed("-"+nines[:70]+"/"+sample.Power(70)+" 3"))), "0", "3", 0, true},
	} {
		got := listOutcome(poly.Isolate(parsed(c.p), number(c.lo), number(c.hi), c.places))
		if (got == refused) != c.isRefused || got != wantIntervals(parsed(c.p), number(c.lo), number(c.hi), c.places) {
			t.Errorf("%d: Isolate(%s, %s, %s, %d) = %s", i, c.p, c.lo, c.hi, c.places, got)
		}
	}
}

// P7.1: the intervals, or an error if a computation is too large, as the chapter
// defines them.
func TestIsolateDefined(t *testing.T) {
	for length, least := range map[int]int{1: 55, 3: 35, 10: 20, 30: 12, 60: 8, 110: 4, api.MaxDigits: 3} {
		results := 0
		for i, p := range append(polynomials(7, length, uint64(length)+80), small(5, uint64(length)+81)...) {
			for k, pair := range [][]api.Ratio{parsed("-5 5"), parsed("-1 1"), parsed("-1000/7 2"), parsed("0 1/3"), parsed("1 0")} {
				places := []int{0, 1, 3, 8, 60 / (len(p) + 2)}[(i+k)%5]
				got, want := listOutcome(poly.Isolate(p, pair[0], pair[1], places)), wantIntervals(p, pair[0], pair[1], places)
				if got != want {
					t.Errorf("Isolate(%s, %s, %d) = %s instead of %s", text(p), text(pair), places, got, want)
				}
				if got != refused {
					results++
				}
			}
		}
		if results < least {
			t.Errorf("only %d results for %d digits", results, length)
		}
	}
}

// checkIntervals checks that list has one interval for each root of s from lo to
// hi, as P7.7 describes it.
func checkIntervals(t *testing.T, s subject, lo, hi api.Ratio, places int, list []api.Interval) {
	t.Helper()
	roots := s.between(lo, hi)
	if len(roots) != len(list) {
		t.Errorf("Isolate(%s, %s, %s, %d) = %s for %d roots", text(s.p), rational.Print(lo), rational.Print(hi), places, listOutcome(list, api.OK), len(roots))
		return
	}
	for i, x := range list {
		from, to := value(x.Lo), value(x.Hi)
		isRootAt := func(x *big.Rat) bool {
			for _, r := range s.roots {
				if r.compare(x) == 0 {
					return true
				}
			}
			return false
		}
		width := new(big.Rat).Sub(to, from)
		ok := roots[i].compare(from) >= 0 && roots[i].compare(to) <= 0
		ok = ok && width.Sign() >= 0 && width.Cmp(new(big.Rat).Inv(power(places))) <= 0
		ok = ok && from.Cmp(value(lo)) >= 0 && to.Cmp(value(hi)) <= 0
		if isRootAt(from) || isRootAt(to) {
			ok = ok && width.Sign() == 0
		}
		if i > 0 {
			ok = ok && value(list[i-1].Hi).Cmp(from) <= 0
		}
		for _, r := range s.roots {
			if r != roots[i] {
				ok = ok && (r.compare(from) < 0 || r.compare(to) > 0)
			}
		}
		if !ok {
			t.Errorf("Isolate(%s, %s, %s, %d): interval %d of %s", text(s.p), rational.Print(lo), rational.Print(hi), places, i, listOutcome(list, api.OK))
		}
	}
}

// P7.7: each root is in an interval of its own. P7.8: with more places, each
// interval is within the one with fewer places.
func TestIsolate(t *testing.T) {
	list := ends()
	results := 0
	for i, s := range subjects() {
		for k := i % 4; k < len(list); k += 4 {
			lo, hi := list[k/2], list[len(list)-1-(k+i)%8]
			if value(lo).Cmp(value(hi)) > 0 {
				continue
			}
			var wider []api.Interval
			for _, places := range []int{0, 2, 2 + 40/(len(s.p)+1)} {
				found, err := poly.Isolate(s.p, lo, hi, places)
				if err != api.OK {
					if got := listOutcome(found, err); len(s.p) < 4 || got != refused {
						t.Errorf("Isolate(%s, %s, %s, %d) = %s", text(s.p), rational.Print(lo), rational.Print(hi), places, got)
					}
					break
				}
				results++
				checkIntervals(t, s, lo, hi, places, found)
				for n := range min(len(found), len(wider)) {
					if value(found[n].Lo).Cmp(value(wider[n].Lo)) < 0 || value(found[n].Hi).Cmp(value(wider[n].Hi)) > 0 {
						t.Errorf("Isolate(%s, %s, %s, %d): interval %d is not within one with fewer places", text(s.p), rational.Print(lo), rational.Print(hi), places, n)
					}
				}
				wider = found
			}
		}
	}
	if results < 450 {
		t.Errorf("only %d results", results)
	}
}

// P7.8: the intervals with more places, of polynomials whose roots are not known.
func TestIsolateNarrower(t *testing.T) {
	for _, p := range append(small(6, 91), polynomials(4, 2, 92)...) {
		if len(p) == 0 {
			continue
		}
		var wider []api.Interval
		for places := range 8 {
			found, err := poly.Isolate(p, number("-10"), number("7"), places)
			if n, errCount := poly.Count(p, number("-10"), number("7")); err != api.OK || errCount != api.OK || n != len(found) {
				t.Errorf("Isolate(%s, -10, 7, %d) = %s, but there are %d roots", text(p), places, listOutcome(found, err), n)
			}
			for n, x := range found {
				if n < len(wider) && (value(x.Lo).Cmp(value(wider[n].Lo)) < 0 || value(x.Hi).Cmp(value(wider[n].Hi)) > 0) {
					t.Errorf("Isolate(%s, -10, 7, %d): interval %d is not within one with fewer places", text(p), places, n)
				}
				if n, err := poly.Count(p, x.Lo, x.Hi); err != api.OK || n != 1 && x.Lo != x.Hi || n != 0 && x.Lo == x.Hi {
					t.Errorf("%s has %d roots in an interval of Isolate", text(p), n)
				}
			}
			wider = found
		}
	}
}

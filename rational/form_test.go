package rational_test

import (
	"math"
	"math/big"
	"testing"

	"workpiece/api"
	"workpiece/rational"
	"workpiece/sample"
)

// P4.1: valid fractions, and the others.
func TestValid(t *testing.T) {
	for _, r := range append(append(sample.SmallFractions(12), sample.LargeFractions()...), sample.Fractions(300, api.MaxDigits, 1)...) {
		if !rational.Valid(r) {
			t.Errorf("Valid(%s) = false", text(r))
		}
	}
	for _, r := range sample.InvalidFractions() {
		if rational.Valid(r) {
			t.Errorf("Valid(%.50q) = true", r)
		}
	}
}

// P4.1 and P4.2: among all pairs of short strings, exactly one is valid for each
// value.
func TestValidShort(t *testing.T) {
	parts := []string{"", "-", "+1", "-0", "00", "01", "-01", "1-", "1/1", "٣", "1e3"}
	for n := int64(-30); n <= 30; n++ {
		parts = append(parts, big.NewInt(n).String())
	}
	found := map[string]api.Ratio{}
	for _, num := range parts {
		for _, den := range parts {
			r := api.Ratio{Num: num, Den: den}
			if rational.Valid(r) != isFraction(r) {
				t.Errorf("Valid(%q) = %t", r, rational.Valid(r))
			}
			if !rational.Valid(r) {
				continue
			}
			v := value(r).String()
			if other, ok := found[v]; ok {
				t.Errorf("%q and %q have the same value", r, other)
			}
			found[v] = r
		}
	}
	for n := int64(-30); n <= 30; n++ {
		for d := int64(1); d <= 30; d++ {
			if _, ok := found[big.NewRat(n, d).String()]; !ok {
				t.Errorf("%d/%d has no valid fraction", n, d)
			}
		}
	}
}

// P4.1: the examples of the chapter, all small integers, and those at the ends of
// 64 bits.
func TestOf(t *testing.T) {
	ints := []int{math.MinInt, math.MinInt + 1, math.MinInt / 2, -1 << 32, 1 << 32, math.MaxInt / 2, math.MaxInt - 1, math.MaxInt}
	for n := -40; n <= 40; n++ {
		ints = append(ints, n)
	}
	for _, n := range ints {
		for _, d := range ints {
			want := reduced(big.NewInt(int64(n)), big.NewInt(int64(d)))
			if got := outcome(rational.Of(n, d)); got != want {
				t.Errorf("Of(%d, %d) = %s instead of %s", n, d, got, want)
			}
		}
	}
	for _, c := range []struct{ got, want string }{
		{outcome(rational.Of(6, -4)), "-3/2"}, {outcome(rational.Of(0, -5)), "0"}, {outcome(rational.Of(1, 0)), refused},
	} {
		if c.got != c.want {
			t.Errorf("%s instead of %s", c.got, c.want)
		}
	}
}

// P4.1 and P4.2: Make reduces, whatever the signs and the common factor.
func TestMake(t *testing.T) {
	commons := append([]string{"1", "-1", "2", "-6"}, sample.Integers(6, 90, 2)...)
	for _, r := range append(sample.SmallFractions(6), sample.Fractions(200, 100, 3)...) {
		for _, common := range commons {
			n, d := times(r.Num, common), times(r.Den, common)
			if !fit(n, d) {
				continue
			}
			if got := outcome(rational.Make(n.String(), d.String())); got != text(r) {
				t.Errorf("Make(%s, %s) = %s instead of %s", n, d, got, text(r))
			}
		}
	}
}

// P4.1: what Make refuses, and the greatest integers.
func TestMakeEnds(t *testing.T) {
	for _, c := range []struct{ num, den, want string }{
		{"1", "0", refused}, {"0", "0", refused}, {"-" + nines, "0", refused}, {"10", "-0", refused}, {"-0", "10", refused}, {"", "1", refused}, {"1", "", refused},
		{"+1", "2", refused}, {"1", "02", refused}, {"1/2", "1", refused}, {"1", "-", refused}, {"x", "-1", refused}, {"x", "0", refused}, {"0", "x", refused},
		{sample.Power(200), "1", refused}, {"1", sample.Power(200), refused}, {sample.Power(200), sample.Power(200), refused}, {"-" + sample.Power(200), "-1", refused},
		{nines, nines, "1"}, {nines, "-" + nines, "-1"}, {"-" + nines, "-1", nines}, {"0", "-" + nines, "0"}, {"1", "-" + nines, "-1/" + nines},
		{nines, "9", ones(api.MaxDigits)}, {"9", nines, "1/" + ones(api.MaxDigits)},
	} {
		if got := outcome(rational.Make(c.num, c.den)); got != c.want {
			t.Errorf("Make(%s, %s) = %s", c.num, c.den, got)
		}
	}
}

// P4.2: two valid fractions have the same value exactly if they are equal, and
// exactly if Print returns the same for both.
func TestPrintOfPairs(t *testing.T) {
	list := append(sample.SmallFractions(6), sample.LargeFractions()[:150]...)
	for _, a := range list {
		for _, b := range list {
			same := value(a).Cmp(value(b)) == 0
			if same != (a == b) || same != (rational.Print(a) == rational.Print(b)) {
				t.Errorf("%s and %s", text(a), text(b))
			}
		}
	}
}

// P4.6: Parse reverses Print; Print returns nothing for what is not valid.
func TestPrint(t *testing.T) {
	for _, r := range append(append(sample.SmallFractions(12), sample.LargeFractions()...), sample.Fractions(500, api.MaxDigits, 4)...) {
		s := rational.Print(r)
		if s != text(r) {
			t.Errorf("Print(%q) = %q", r, s)
		}
		if back, err := rational.Parse(s); back != r || err != api.OK {
			t.Errorf("Parse(%q) = %q, %d", s, back, err)
		}
	}
	for _, r := range sample.InvalidFractions() {
		if s := rational.Print(r); s != "" {
			t.Errorf("Print(%.50q) = %.50q", r, s)
		}
	}
}

// checkParse checks Parse of s, which only one valid fraction can have as its
// text: that whose Num stands before the first slash, and whose Den after it.
func checkParse(t *testing.T, s string) {
	t.Helper()
	want := api.Ratio{Num: s, Den: "1"}
	for i := range len(s) {
		if s[i] == '/' {
			want = api.Ratio{Num: s[:i], Den: s[i+1:]}
			break
		}
	}
	got, err := rational.Parse(s)
	if isFraction(want) && text(want) == s {
		if got != want || err != api.OK || rational.Print(got) != s {
			t.Errorf("Parse(%q) = %q, %d", s, got, err)
		}
		return
	}
	if got != (api.Ratio{}) || err != api.ErrRational {
		t.Errorf("Parse(%.50q) = %.50q, %d", s, got, err)
	}
}

// P4.6: Print reverses Parse, of all short strings.
func TestParseShort(t *testing.T) {
	for _, s := range sample.Strings("-+/012346 ", 5) {
		checkParse(t, s)
	}
}

// P4.6: the examples of the chapter, other forms, and texts with one byte
// changed.
func TestParse(t *testing.T) {
	list := []string{
		"-3/2", "3/-2", "6/4", "3/1", "+3", "1/2/3", "1//2", "/", "//", "1/", "/1", "-/2", "0/1", "0/7", "-0/1", "1\\2", "1:2", "1/2 ", " 1/2", "1 /2", "1/2\x00", "½", "1⁄2", "1.5", "1e2",
		nines, "-" + nines, nines + "/" + sample.Power(199), "1/" + nines, nines + "9", "1/" + nines + "9", sample.Power(200), "1/" + sample.Power(200), nines + "/3", "-" + nines + "/" + nines, nines + "/1",
	}
	for _, s := range list {
		checkParse(t, s)
	}
	for _, r := range append(sample.SmallFractions(4), sample.Fractions(10, 30, 5)...) {
		s := text(r)
		for i := range len(s) {
			checkParse(t, s[:i])
			checkParse(t, s[i:])
			for b := range 256 {
				checkParse(t, s[:i]+string([]byte{byte(b)})+s[i+1:])
			}
		}
	}
	for _, s := range []string{"3/-2", "6/4", "3/1", "+3"} {
		if got := outcome(rational.Parse(s)); got != refused {
			t.Errorf("Parse(%q) = %s", s, got)
		}
	}
}

package enclosure_test

import (
	"math/big"
	"testing"

	"workpiece/api"
	"workpiece/enclosure"
	"workpiece/rational"
	"workpiece/sample"
)

// P5.1: the examples of the chapter, and operations that are too large.
func TestArithmeticKnown(t *testing.T) {
	nines, half := sample.Nines(), sample.Power(100)
	for i, c := range []struct{ got, want string }{
		{outcome(enclosure.Mul(span("-2 3"), span("-5 1"))), "-15 10"},
		{outcome(enclosure.Div(span("1 2"), span("-1 4"))), refused},
		{outcome(enclosure.Div(span("1 2"), span("2 4"))), "1/4 1"},
		{outcome(enclosure.Add(span("0 "+nines), span("0 1"))), refused},
		{outcome(enclosure.Add(span("-"+nines+" 0"), span("-1 0"))), refused},
		{outcome(enclosure.Add(span("0 "+nines), span("-1 0"))), "-1 " + nines},
		{outcome(enclosure.Sub(span("0 "+nines), span("0 1"))), "-1 " + nines},
		{outcome(enclosure.Sub(span("0 "+nines), span("-1 0"))), refused},
		{outcome(enclosure.Sub(span("-"+nines+" 0"), span("0 1"))), refused},
		{outcome(enclosure.Sub(span(nines), span(nines))), "0"},
		// Each of the four products is calculated, whether it is an end or not.
		{outcome(enclosure.Mul(span("0 "+half), span("0 "+half))), refused},
		{outcome(enclosure.Mul(span("1/"+half+" 1"), span("1/"+half+" 1"))), refused},
		{outcome(enclosure.Mul(span("-1 1/"+half), span("-1 1/"+half))), refused},
		{outcome(enclosure.Mul(span("-1/"+half+" 1"), span("-1 1/"+half))), refused},
		{outcome(enclosure.Mul(span("-1/"+half), span("1/"+half))), refused},
		{outcome(enclosure.Mul(span("1/"+half+" 1"), span("2"))), "1/5" + half[2:] + " 2"},
		{outcome(enclosure.Div(span("1/"+half+" 1"), span("1 "+half))), refused},
		{outcome(enclosure.Div(span("0"), span("-"+nines+" -1"))), "0"},
	} {
		if c.got != c.want {
			t.Errorf("%d: %s instead of %s", i, c.got, c.want)
		}
	}
}

// checkPair checks the calculations with a and b, and returns how many of them
// have a result.
func checkPair(t *testing.T, a, b api.Interval) int {
	t.Helper()
	results := 0
	for _, f := range calculations() {
		x, err := f.enclosed(a, b)
		got := outcome(x, err)
		if want := f.want(a, b); got != want {
			t.Errorf("%s(%s, %s) = %s instead of %s", f.name, text(a), text(b), got, want)
			continue
		}
		if got != refused {
			results++
			checkContained(t, f, a, b, x)
		}
	}
	return results
}

// inside returns the ends of x, its middle, and what is at a third of it.
func inside(x api.Interval) []*big.Rat {
	lo, hi := value(x.Lo), value(x.Hi)
	out := []*big.Rat{lo, hi}
	for _, part := range []*big.Rat{big.NewRat(1, 2), big.NewRat(1, 3)} {
		way := new(big.Rat).Mul(new(big.Rat).Sub(hi, lo), part)
		out = append(out, way.Add(lo, way))
	}
	return out
}

// checkContained checks that the result x of f contains what exact calculation
// gives for fractions of a and b, and that its ends are two of these.
func checkContained(t *testing.T, f binary, a, b api.Interval, x api.Interval) {
	t.Helper()
	low, high := false, false
	lo, hi := value(x.Lo), value(x.Hi)
	for _, r := range inside(a) {
		for _, s := range inside(b) {
			v := f.ofValues(new(big.Rat), r, s)
			toLo, toHi := v.Cmp(lo), v.Cmp(hi)
			if toLo < 0 || toHi > 0 {
				t.Errorf("%s(%s, %s) = %s does not contain %s", f.name, text(a), text(b), text(x), v)
			}
			low, high = low || toLo == 0, high || toHi == 0
		}
	}
	if !low || !high {
		t.Errorf("%s(%s, %s) = %s has other ends than exact calculation", f.name, text(a), text(b), text(x))
	}
}

// P5.1 to P5.3: all pairs of small intervals.
func TestSmallPairs(t *testing.T) {
	list := smalls(2)
	for _, a := range list {
		for _, b := range list {
			if results := checkPair(t, a, b); results < 3 {
				t.Errorf("%s and %s have %d results", text(a), text(b), results)
			}
		}
	}
}

// P5.1 to P5.3: pairs of intervals of all lengths, and at the limit.
func TestPairs(t *testing.T) {
	all := between(sample.LargeFractions())
	var large []api.Interval
	for i := 0; i < len(all); i += 7 {
		large = append(large, all[i])
	}
	lists := [][]api.Interval{large}
	for _, length := range []int{2, 10, 40, 60, 100, api.MaxDigits} {
		lists = append(lists, between(sample.Fractions(36, length, 4)))
	}
	for _, list := range lists {
		results := 0
		for i, a := range list {
			results += checkPair(t, a, list[(i*7+3)%len(list)])
			results += checkPair(t, a, large[(i*11+5)%len(large)])
			results += checkPair(t, a, span("-1/3 2"))
			results += checkPair(t, a, a)
		}
		if results < len(list) {
			t.Errorf("only %d results of %d", results, 16*len(list))
		}
	}
}

// P5.2: the calculations contain what package rational calculates for the ends of
// random intervals, as Contains sees it.
func TestContainment(t *testing.T) {
	list := between(sample.Fractions(50, 20, 5))
	for i, a := range list {
		b := list[(i*13+1)%len(list)]
		for _, f := range calculations() {
			x, err := f.enclosed(a, b)
			if err != api.OK {
				continue
			}
			for _, r := range inside(a) {
				for _, s := range inside(b) {
					if v, err := f.exact(ofValue(r), ofValue(s)); err != api.OK || !enclosure.Contains(x, v) {
						t.Errorf("%s(%s, %s) = %s does not contain %s", f.name, text(a), text(b), text(x), rational.Print(v))
					}
				}
			}
		}
	}
}

// parts returns intervals that lie within x.
func parts(x api.Interval) []api.Interval {
	var out []api.Interval
	for _, r := range inside(x) {
		for _, s := range inside(x) {
			if r.Cmp(s) <= 0 {
				out = append(out, api.Interval{Lo: ofValue(r), Hi: ofValue(s)})
			}
		}
	}
	return out
}

// P5.4: results for narrower intervals lie within the results for wider ones.
func TestNarrower(t *testing.T) {
	list := []api.Interval{span("-2 3"), span("-5 1"), span("0 4"), span("-7 0"), span("1/3 5/2"), span("-9/4 -1/8"), span("6"), span("0"), span("-1/5")}
	list = append(list, between(sample.Fractions(3, 12, 6))...)
	for i, a := range list {
		for k := i % 2; k < len(list); k += 2 {
			b := list[k]
			for _, f := range calculations() {
				if wide, err := f.enclosed(a, b); err == api.OK {
					checkNarrower(t, f, a, b, wide)
				}
			}
		}
	}
}

// checkNarrower checks that the results of f for parts of a and b lie within wide,
// the one for a and b.
func checkNarrower(t *testing.T, f binary, a, b api.Interval, wide api.Interval) {
	t.Helper()
	for _, x := range parts(a) {
		for _, y := range parts(b) {
			if narrow, err := f.enclosed(x, y); err != api.OK || !enclosure.Within(narrow, wide) {
				t.Errorf("%s(%s, %s) = %s is not within %s", f.name, text(x), text(y), outcome(narrow, err), text(wide))
			}
		}
	}
}

package poly_test

import (
	"math/big"
	"slices"
	"strconv"
	"strings"
	"testing"

	"workpiece/api"
	"workpiece/poly"
	"workpiece/rational"
	"workpiece/sample"
)

// A root is the number middle plus side (-1, 0 or 1) times the square root of
// square, which is not the square of a fraction.
type root struct {
	middle, square *big.Rat
	side           int
}

// compare returns the sign of the difference of the root and x.
func (r root) compare(x *big.Rat) int {
	distance := new(big.Rat).Sub(x, r.middle)
	if r.side == 0 || distance.Sign() != r.side {
		return max(-1, min(1, r.side-2*distance.Sign()))
	}
	return r.side * r.square.Cmp(distance.Mul(distance, distance))
}

// A subject is a polynomial with all of its real roots.
type subject struct {
	p     []api.Ratio
	roots []root
}

// subjectOf returns the product of factors, each of which is of the form
// (x - middle)^power or ((x - middle)^2 - square)^power, where square is not the
// square of a fraction. No two of them have the same roots.
func subjectOf(factors ...string) subject {
	s := subject{p: parsed("-2/3")}
	for _, f := range factors {
		words := strings.Fields(f)
		power, err := strconv.Atoi(words[len(words)-1])
		if err != nil {
			panic(err)
		}
		middle := number(words[0])
		factor := surely(rational.Sub(number("0"), middle))
		p := []api.Ratio{factor, number("1")}
		if len(words) == 2 {
			s.roots = append(s.roots, root{value(middle), new(big.Rat), 0})
		} else {
			square := number(words[1])
			p = product(p, p)
			p[0] = surely(rational.Sub(p[0], square))
			if value(square).Sign() > 0 {
				s.roots = append(s.roots, root{value(middle), value(square), -1}, root{value(middle), value(square), 1})
			}
		}
		s.p = product(append(slices.Repeat([][]api.Ratio{p}, power), s.p)...)
	}
	return s
}

// surely returns r, which must be there.
func surely(r api.Ratio, err api.Errno) api.Ratio {
	if err != api.OK {
		panic("too large")
	}
	return r
}

// between returns the roots that are greater than lo and at most hi, in ascending
// order.
func (s subject) between(lo, hi api.Ratio) []root {
	var out []root
	for _, r := range s.roots {
		if r.compare(value(lo)) > 0 && r.compare(value(hi)) <= 0 {
			out = append(out, r)
		}
	}
	slices.SortFunc(out, func(a, b root) int {
		return a.float().Cmp(b.float())
	})
	return out
}

// float returns the root, rounded.
func (r root) float() *big.Float {
	real := func(x *big.Rat) *big.Float { return new(big.Float).SetPrec(400).SetRat(x) }
	distance := new(big.Float).SetPrec(400).Sqrt(real(r.square))
	return distance.Add(distance.Mul(distance, big.NewFloat(float64(r.side))), real(r.middle))
}

// subjects returns polynomials of all degrees, with single and repeated roots, with
// and without others that are not real.
func subjects() []subject {
	return []subject{
		subjectOf(), subjectOf("0 1"), subjectOf("1/2 1"), subjectOf("-3 1"), subjectOf("0 2 1"), subjectOf("0 -2 1"), subjectOf("1/3 5/7 1"), subjectOf("1 2"), subjectOf("1 3"), subjectOf("0 12"),
		subjectOf("0 1", "1 1"), subjectOf("0 1", "1 1", "2 1", "3 1"), subjectOf("-1 2", "1 2"), subjectOf("0 1", "0 2 1"), subjectOf("0 2", "0 2 2"), subjectOf("1 1", "0 -1 1"), subjectOf("1 1", "0 -1 3"),
		subjectOf("-2 1", "-1 2", "0 3", "1 2", "2 1"), subjectOf("0 2 1", "0 3 1", "0 5 1"), subjectOf("0 2 2", "0 3 1", "0 1/2 1"), subjectOf("1/2 1", "1/2 -1 1", "1/2 3 1"),
		subjectOf("1 1", "1001/1000 1"), subjectOf("1 2", "999999/1000000 1"), subjectOf("0 2 1", "1 1/6 1", "141421/100000 1"), subjectOf("0 2 1", "14142135623/10000000000 1"),
		subjectOf("1/3 1", "2/3 1", "1/5 1", "2/5 1", "3/5 1", "4/5 1"), subjectOf("0 -1 2", "0 -2 2", "0 -3 2"), subjectOf("-7 5", "7 7"), subjectOf("0 2 6"), subjectOf("1 1", "2 1", "3 1", "4 1", "5 1", "6 1", "7 1", "8 1", "9 1", "10 1", "11 1", "12 1"),
		subjectOf("-1/2 1", "0 1", "1/4 1", "1/2 1", "3/4 1", "1 1"), subjectOf("100 1", "-100 1", "0 1000 1"), subjectOf("0 1/1000000 1", "0 1000000007 1"), subjectOf("0 1", "1/1000000000 1"),
	}
}

// ends returns numbers among which there are roots of the subjects, and others that
// are near to them.
func ends() []api.Ratio {
	return parsed("-1000 -7 -3 -2 -3/2 -1 -1/2 0 1/1000000000 1/4 1/3 1/2 3/5 999/1000 1 1001/1000 7/5 141421/100000 14142135623/10000000000 3/2 2 7 15/2 12 100")
}

// P7.6: the number of different roots between pairs of ends.
func TestCount(t *testing.T) {
	for n, s := range subjects() {
		list := ends()
		for i, lo := range list {
			for k := i; k < len(list); k += 2 + (i+n)%3 {
				hi := list[k]
				if got, want := countOutcome(poly.Count(s.p, lo, hi)), strconv.Itoa(len(s.between(lo, hi))); got != want {
					t.Errorf("Count(%s, %s, %s) = %s instead of %s", text(s.p), rational.Print(lo), rational.Print(hi), got, want)
				}
			}
		}
	}
}

// P7.6: products of the factors that the bits of a number tell, so that there are
// roots of all multiplicities side by side.
func TestCountOfProducts(t *testing.T) {
	factors := []string{"0 1", "-1 2", "1/2 3", "0 2 1", "0 -1 1", "1 3 2", "5/4 1/1000 1"}
	degrees := []int{1, 2, 3, 2, 2, 4, 2}
	for pattern := range 1 << len(factors) {
		var chosen []string
		degree := 0
		for i, f := range factors {
			if pattern>>i&1 == 1 && degree+degrees[i] <= 9 {
				chosen = append(chosen, f)
				degree += degrees[i]
			}
		}
		s := subjectOf(chosen...)
		list := parsed("-2 -1 -1/2 0 1/2 1 7/5 2 4")
		for i, lo := range list {
			hi := list[i+(pattern+i)%(len(list)-i)]
			if got, want := countOutcome(poly.Count(s.p, lo, hi)), strconv.Itoa(len(s.between(lo, hi))); got != want {
				t.Errorf("Count(%s, %s, %s) = %s instead of %s", text(s.p), rational.Print(lo), rational.Print(hi), got, want)
			}
		}
	}
}

// P7.1: the number of roots, or an error if a computation is too large, as the
// chapter defines it.
func TestCountDefined(t *testing.T) {
	for length, least := range map[int]int{1: 60, 3: 35, 10: 20, 30: 15, 60: 8, 110: 5, api.MaxDigits: 3} {
		results := 0
		for i, p := range append(polynomials(api.MaxDegree, length, uint64(length)+50), small(9, uint64(length))...) {
			x := sample.Fractions(2, length/2+1, uint64(i))
			slices.SortFunc(x, rational.Compare)
			for _, pair := range [][]api.Ratio{x, parsed("-5 5"), parsed("0 1"), parsed("1/2 1/2"), {x[1], x[0]}} {
				got, want := countOutcome(poly.Count(p, pair[0], pair[1])), wantCount(p, pair[0], pair[1])
				if got != want {
					t.Errorf("Count(%s, %s) = %s instead of %s", text(p), text(pair), got, want)
				}
				if got != refused {
					results++
				}
			}
		}
		if results < least {
			t.Errorf("only %d results for %d digits", results, length)
		}
	}
}

// P7.8: the roots between two numbers are those up to a number between them, and
// those after it.
func TestCountDivided(t *testing.T) {
	list := ends()
	for _, p := range append(small(6, 71), polynomials(4, 2, 72)...) {
		if len(p) == 0 {
			continue
		}
		lo, hi := list[0], list[len(list)-1]
		all, err := poly.Count(p, lo, hi)
		if err != api.OK {
			t.Fatal(text(p), err)
		}
		for _, middle := range list {
			below, errBelow := poly.Count(p, lo, middle)
			above, errAbove := poly.Count(p, middle, hi)
			if below+above != all || errBelow != api.OK || errAbove != api.OK {
				t.Errorf("%s has %d roots up to %s, %d after it, and %d in all", text(p), below, rational.Print(middle), above, all)
			}
		}
	}
}

package rational_test

import (
	"math/big"
	"sort"
	"testing"

	"workpiece/api"
	"workpiece/rational"
	"workpiece/sample"
)

// checkOrder checks Compare of a and b, both ways and negated, against the order
// of the values.
func checkOrder(t *testing.T, a, b api.Ratio) {
	t.Helper()
	want := value(a).Cmp(value(b))
	if got := rational.Compare(a, b); got != want {
		t.Errorf("Compare(%s, %s) = %d", text(a), text(b), got)
	}
	if got := rational.Compare(b, a); got != -want {
		t.Errorf("Compare(%s, %s) = %d", text(b), text(a), got)
	}
	if got := rational.Compare(negated(a), negated(b)); got != -want {
		t.Errorf("Compare(%s, %s) = %d", text(negated(a)), text(negated(b)), got)
	}
}

// negated returns 0 minus r.
func negated(r api.Ratio) api.Ratio { return ofValue(new(big.Rat).Neg(value(r))) }

// P4.1: the examples of the chapter.
func TestCompareExamples(t *testing.T) {
	if got := rational.Compare(parsed("1/3"), parsed("33333/100000")); got != 1 {
		t.Errorf("Compare(1/3, 33333/100000) = %d", got)
	}
	if got := rational.Compare(parsed("-1/2"), parsed("-1/3")); got != -1 {
		t.Errorf("Compare(-1/2, -1/3) = %d", got)
	}
}

// P4.4: a sorted list has each fraction before all that are greater, of whatever
// size.
func TestTotalOrder(t *testing.T) {
	list := append(append(sample.SmallFractions(6), sample.LargeFractions()...), sample.Fractions(40, api.MaxDigits, 9)...)
	sort.Slice(list, func(i, k int) bool { return rational.Compare(list[i], list[k]) < 0 })
	for i := 1; i < len(list); i++ {
		if order := value(list[i-1]).Cmp(value(list[i])); order > 0 || order == 0 && list[i-1] != list[i] {
			t.Errorf("%s stands before %s", text(list[i-1]), text(list[i]))
		}
	}
	for i, a := range list {
		for k := 0; k < len(list); k += 5 + i%3 {
			want := 0
			if a != list[k] {
				want = 1
				if i < k {
					want = -1
				}
			}
			if got := rational.Compare(a, list[k]); got != want {
				t.Errorf("Compare(%s, %s) = %d", text(a), text(list[k]), got)
			}
		}
	}
}

// convergents returns the successive fractions of the continued fraction with the
// given terms, as long as they are valid.
func convergents(terms func(i int) int64) []api.Ratio {
	var out []api.Ratio
	n, oldN, d, oldD := big.NewInt(1), big.NewInt(0), big.NewInt(0), big.NewInt(1)
	for i := 0; ; i++ {
		term := big.NewInt(terms(i))
		n, oldN = new(big.Int).Add(new(big.Int).Mul(term, n), oldN), n
		d, oldD = new(big.Int).Add(new(big.Int).Mul(term, d), oldD), d
		if !fit(n, d) {
			return out
		}
		out = append(out, api.Ratio{Num: n.String(), Den: d.String()})
	}
}

// P4.4: neighbours that agree as long as possible, which take the most steps.
func TestCompareConvergents(t *testing.T) {
	random := sample.Bytes(2000, 10)
	for _, terms := range []func(i int) int64{
		func(int) int64 { return 1 },
		func(int) int64 { return 2 },
		func(i int) int64 { return 1 + int64(random[i])/64 },
		func(i int) int64 { return 1 + int64(random[i])*int64(random[i+1]) },
		func(i int) int64 { return -1000 + 1001*int64(min(i, 1)) },
	} {
		list := convergents(terms)
		last := len(list) - 1
		for i := 1; i <= last; i++ {
			// Those in between have steps that the others have as well.
			if i < 20 || i%20 == 0 || i > last-5 {
				checkOrder(t, list[i-1], list[i])
				checkOrder(t, list[i], list[last])
			}
		}
	}
}

// P4.4: fractions that are next to an integer, where one rest is 0 although the
// products are too large, and fractions next to each other with the same Den.
func TestCompareNeighbours(t *testing.T) {
	for _, size := range []int{1, 50, 99, 100, 101, 150, 199} {
		n, d := number(sample.Power(size)), number(sample.Power(api.MaxDigits-size))
		for _, shift := range []int64{-3, -1, 0, 1, 3} {
			num := new(big.Int).Add(new(big.Int).Mul(n, d), big.NewInt(shift))
			if !fit(num) {
				continue
			}
			a := sample.Fraction(num.String(), d.String())
			checkOrder(t, a, parsed(n.String()))
			if next := new(big.Int).Add(num, big.NewInt(2)); fit(next) {
				checkOrder(t, a, sample.Fraction(next.String(), d.String()))
			}
		}
	}
}

// P4.4: the order is the sign of the difference, and is kept by adding the same
// and by multiplying by the same positive fraction.
func TestOrderLaws(t *testing.T) {
	list := append(append(sample.SmallFractions(3), sample.Fractions(16, 30, 11)...), sample.LargeFractions()[:8]...)
	compared := 0
	for _, a := range list {
		for _, b := range list {
			order := rational.Compare(a, b)
			if d := difference(a, b); d != refused && rational.Compare(parsed(d), parsed("0")) != order {
				t.Errorf("Compare(%s, %s) = %d, the difference is %s", text(a), text(b), order, d)
			}
			for _, c := range list {
				compared += checkKept(t, order, sum(a, c), sum(b, c))
				if rational.Compare(c, parsed("0")) > 0 {
					compared += checkKept(t, order, product(a, c), product(b, c))
				}
			}
		}
	}
	if compared < len(list)*len(list)*len(list) {
		t.Errorf("only %d pairs are compared", compared)
	}
}

// checkKept checks that the fractions with the texts x and y have the given order
// and returns 1, or returns 0 if one of them is refused.
func checkKept(t *testing.T, order int, x, y string) int {
	t.Helper()
	if x == refused || y == refused {
		return 0
	}
	if got := rational.Compare(parsed(x), parsed(y)); got != order {
		t.Errorf("Compare(%s, %s) = %d instead of %d", x, y, got, order)
	}
	return 1
}

package tower_test

import (
	"slices"
	"strings"
	"testing"

	"workpiece/api"
	"workpiece/sample"
	"workpiece/tower"
)

// P6.1: the examples of the chapter.
func TestArithmeticExamples(t *testing.T) {
	two, nested := sample.Tower("2"), sample.Tower("2; 3 2")
	for i, c := range []struct{ got, want string }{
		{outcome(tower.Mul(two, sample.Numbers("1 1"), sample.Numbers("1 -1"))), "-1 0"},
		{outcome(tower.Inverse(two, sample.Numbers("1 1"))), "-1 1"},
		{outcome(tower.Inverse(nested, sample.Numbers("1 1 1 0"))), "-1/2 1/2 0 0"},
		{outcome(tower.Inverse(nested, sample.Numbers("1 1 -1 0"))), refused},
		{outcome(tower.Inverse(two, sample.Numbers("0 0"))), refused},
		{outcome(tower.Inverse(api.Tower{}, sample.Numbers("0"))), refused},
		{outcome(tower.Inverse(api.Tower{}, sample.Numbers("-3/2"))), "-2/3"},
		{outcome(tower.Inverse(sample.Tower("4"), sample.Numbers("2 1"))), "1/4 0"},
		{outcome(tower.Inverse(sample.Tower("4"), sample.Numbers("2 -1"))), refused},
		{outcome(tower.Inverse(sample.Tower("4"), sample.Numbers("3 -1"))), "3/5 1/5"},
	} {
		if c.got != c.want {
			t.Errorf("%d: %s instead of %s", i, c.got, c.want)
		}
	}
}

// checkOperations checks the operations with the elements a and b of u against the
// definitions of the chapter, and returns how many of them are not too large.
func checkOperations(t *testing.T, u api.Tower, a, b []api.Ratio) int {
	t.Helper()
	level, x, y := len(u.Radicands), numberOf(a), numberOf(b)
	sum, difference, product, inverse, sign, order := referenceOf(u), referenceOf(u), referenceOf(u), referenceOf(u), referenceOf(u), referenceOf(u)
	wantInverse := refused
	if inverse.sign(level, x) != 0 {
		wantInverse = inverse.outcome(inverse.inverse(level, x))
	}
	results := 0
	for _, c := range []struct{ name, got, want string }{
		{"Add", outcome(tower.Add(u, a, b)), sum.outcome(sum.plus(x, y))},
		{"Sub", outcome(tower.Sub(u, a, b)), difference.outcome(difference.minus(x, y))},
		{"Mul", outcome(tower.Mul(u, a, b)), product.outcome(product.times(level, x, y))},
		{"Inverse", outcome(tower.Inverse(u, a)), wantInverse},
		{"Sign", signOutcome(tower.Sign(u, a)), sign.signOutcome(sign.sign(level, x))},
		{"Compare", signOutcome(tower.Compare(u, a, b)), order.signOutcome(order.sign(level, order.minus(x, y)))},
	} {
		if c.got != c.want {
			t.Errorf("%s of %s and %s in %s = %s instead of %s", c.name, text(a), text(b), towerText(u), c.got, c.want)
		}
		if c.got != refused {
			results++
		}
	}
	return results
}

// P6.1: elements of all towers, with coefficients of all lengths.
func TestOperations(t *testing.T) {
	for _, length := range []int{1, 3, 10, 25, 50, 100, api.MaxDigits} {
		results := 0
		for i, s := range sample.Extensions() {
			u := sample.Tower(s.Text)
			list := s.All(24/size(u)+1, length, uint64(length+i))
			for k, a := range list {
				results += checkOperations(t, u, a, list[(k*7+3)%len(list)])
			}
		}
		if results < 400 {
			t.Errorf("only %d results for %d digits", results, length)
		}
	}
}

// P6.1: all pairs of elements of a tower of level 1, and of one whose radicand is
// a square, with small coefficients.
func TestSmallOperations(t *testing.T) {
	small := sample.SmallFractions(2)
	var list [][]api.Ratio
	for _, r := range small {
		for _, s := range small {
			list = append(list, []api.Ratio{r, s})
		}
	}
	for _, u := range []api.Tower{sample.Tower("2"), sample.Tower("4"), sample.Tower("1/4")} {
		for _, a := range list {
			for _, b := range list {
				if results := checkOperations(t, u, a, b); results < 5 {
					t.Errorf("%s and %s have %d results", text(a), text(b), results)
				}
			}
		}
	}
}

// P6.1: any of the operations of a definition may be too large, but for those that
// are not needed; with 0 nothing is.
func TestTooLarge(t *testing.T) {
	nines, many, half := sample.Nines(), sample.Power(150), sample.Power(100)
	two, wide := sample.Tower("2"), sample.Tower(many)
	for i, c := range []struct{ got, want string }{
		{outcome(tower.Add(two, sample.Numbers("0 "+nines), sample.Numbers("0 1"))), refused},
		{outcome(tower.Add(two, sample.Numbers(nines+" 0"), sample.Numbers("-1 "+nines))), nines[:199] + "8 " + nines},
		{outcome(tower.Sub(two, sample.Numbers("0 -"+nines), sample.Numbers("0 1"))), refused},
		{outcome(tower.Sub(two, sample.Numbers("1 "+nines), sample.Numbers("1 "+nines))), "0 0"},
		{outcome(tower.Mul(two, sample.Numbers(half+" 0"), sample.Numbers(half+" 0"))), refused},
		{outcome(tower.Mul(two, sample.Numbers("0 "+half), sample.Numbers("0 "+half))), refused},
		{outcome(tower.Mul(two, sample.Numbers(half+" 0"), sample.Numbers("0 "+half))), refused},
		{outcome(tower.Mul(two, sample.Numbers("0 "+half), sample.Numbers(half+" 0"))), refused},
		{outcome(tower.Mul(two, sample.Numbers("0 0"), sample.Numbers(nines+" 1/"+nines))), "0 0"},
		{outcome(tower.Mul(two, sample.Numbers(nines+" 1/"+nines), sample.Numbers("0 0"))), "0 0"},
		{outcome(tower.Mul(two, sample.Numbers("1 0"), sample.Numbers(nines+" 1/"+nines))), nines + " 1/" + nines},
		{outcome(tower.Mul(two, sample.Numbers("0 1"), sample.Numbers("0 "+nines))), refused},
		{outcome(tower.Mul(two, sample.Numbers("0 1"), sample.Numbers(nines+" 0"))), "0 " + nines},
		// Only the product with the radicand is too large.
		{outcome(tower.Mul(wide, sample.Numbers("0 "+half), sample.Numbers("0 1"))), refused},
		{outcome(tower.Mul(wide, sample.Numbers("1 "+half), sample.Numbers("1 0"))), "1 " + half},
		// Only the sum is too large.
		{outcome(tower.Mul(sample.Tower("1"), sample.Numbers(nines+" 1"), sample.Numbers("1 1"))), refused},
		{outcome(tower.Mul(sample.Tower("1"), sample.Numbers(nines+" 1"), sample.Numbers("1 -1"))), nines[:199] + "8 -" + nines[:199] + "8"},
		{outcome(tower.Inverse(api.Tower{}, sample.Numbers("-"+nines))), "-1/" + nines},
		{outcome(tower.Inverse(two, sample.Numbers(half+" 0"))), refused},
		{outcome(tower.Inverse(two, sample.Numbers(half[:90]+" 0"))), "1/" + half[:90] + " 0"},
		{signOutcome(tower.Sign(two, sample.Numbers(half+" "+half))), "1"},
		{signOutcome(tower.Sign(two, sample.Numbers(nines+" 0"))), "1"},
		{signOutcome(tower.Sign(two, sample.Numbers("0 -"+nines))), "-1"},
		{signOutcome(tower.Sign(two, sample.Numbers(half+" -1"))), refused},
		{signOutcome(tower.Sign(two, sample.Numbers("1 -"+half))), refused},
		{signOutcome(tower.Sign(wide, sample.Numbers("1 -"+half[:30]))), refused},
		{signOutcome(tower.Sign(wide, sample.Numbers("1 -"+half[:20]))), "-1"},
		{signOutcome(tower.Sign(two, sample.Numbers(half[:100]+" -1"))), "1"},
		{signOutcome(tower.Compare(two, sample.Numbers(nines+" 0"), sample.Numbers("-1 0"))), refused},
		{signOutcome(tower.Compare(two, sample.Numbers(nines+" 0"), sample.Numbers("1 0"))), "1"},
		{signOutcome(tower.Compare(api.Tower{}, sample.Numbers("1/"+nines), sample.Numbers("1/"+half))), refused},
	} {
		if c.got != c.want {
			t.Errorf("%d: %s instead of %s", i, c.got, c.want)
		}
	}
}

// then returns what operate returns for the elements with the texts x and y,
// unless one of them is refused.
func then(u api.Tower, operate func(api.Tower, []api.Ratio, []api.Ratio) ([]api.Ratio, api.Errno), x, y string) string {
	if x == refused || y == refused {
		return refused
	}
	return outcome(operate(u, sample.Numbers(x), sample.Numbers(y)))
}

// checkLaws checks the laws of three elements and returns how many of them it
// compared.
func checkLaws(t *testing.T, u api.Tower, a, b, c string) int {
	t.Helper()
	compared := 0
	same := func(law, x, y string) {
		if x == refused || y == refused {
			return
		}
		compared++
		if x != y {
			t.Errorf("%s of %s, %s and %s in %s: %s, %s", law, a, b, c, towerText(u), x, y)
		}
	}
	plus := func(x, y string) string { return then(u, tower.Add, x, y) }
	minus := func(x, y string) string { return then(u, tower.Sub, x, y) }
	times := func(x, y string) string { return then(u, tower.Mul, x, y) }
	same("commutative sum", plus(a, b), plus(b, a))
	same("commutative product", times(a, b), times(b, a))
	same("associative sum", plus(plus(a, b), c), plus(a, plus(b, c)))
	same("associative product", times(times(a, b), c), times(a, times(b, c)))
	same("distributive", times(a, plus(b, c)), plus(times(a, b), times(a, c)))
	same("difference", plus(minus(a, b), b), a)
	return compared
}

// P6.3: the laws, coefficient by coefficient.
func TestLaws(t *testing.T) {
	for i, s := range sample.Extensions() {
		u := sample.Tower(s.Text)
		list := s.Small(5, uint64(i))
		list = append(list, s.All(2, 10, uint64(i))...)
		compared, tried := 0, 0
		for k, a := range list {
			for m := k % 3; m < len(list); m += 1 + size(u)/2 {
				compared += checkLaws(t, u, text(a), text(list[m]), text(list[(k+m*5+1)%len(list)]))
				tried += 6
			}
		}
		if compared < tried*3/4 {
			t.Errorf("%s: only %d laws of %d are compared", s.Text, compared, tried)
		}
	}
}

// P6.3: the values of sums, differences and products are those of the values.
func TestValues(t *testing.T) {
	for i, s := range sample.Extensions() {
		u := sample.Tower(s.Text)
		v := valuerOf(u)
		list := s.All(8, 6, uint64(i)+100)
		for k, a := range list {
			b := list[(k*3+1)%len(list)]
			x, y := v.of(a), v.of(b)
			sum, errSum := tower.Add(u, a, b)
			difference, errDifference := tower.Sub(u, a, b)
			product, errProduct := tower.Mul(u, a, b)
			if errSum != api.OK || errDifference != api.OK || errProduct != api.OK {
				t.Errorf("%s and %s in %s: %d, %d, %d", text(a), text(b), s.Text, errSum, errDifference, errProduct)
				continue
			}
			if order(v.of(difference), realOf(sample.Numbers("0")[0]).Sub(x, y)) != 0 || order(v.of(sum), realOf(sample.Numbers("0")[0]).Add(x, y)) != 0 || order(v.of(product), realOf(sample.Numbers("0")[0]).Mul(x, y)) != 0 {
				t.Errorf("%s and %s in %s: %s, %s, %s", text(a), text(b), s.Text, text(sum), text(difference), text(product))
			}
		}
	}
}

// P6.4: an element times its inverse has the value 1; an element has no inverse if
// its value is 0.
func TestInverse(t *testing.T) {
	for i, s := range sample.Extensions() {
		u := sample.Tower(s.Text)
		v := valuerOf(u)
		one := sample.Numbers("1" + strings.Repeat(" 0", size(u)-1))
		found := 0
		for _, a := range s.Small(24, uint64(i)+200) {
			inverse, err := tower.Inverse(u, a)
			if v.sign(a) == 0 {
				if outcome(inverse, err) != refused {
					t.Errorf("Inverse of %s in %s = %s", text(a), s.Text, outcome(inverse, err))
				}
				continue
			}
			if err != api.OK {
				continue
			}
			found++
			product, err := tower.Mul(u, a, inverse)
			if err == api.OK && order(v.of(product), realOf(one[0])) != 0 {
				t.Errorf("%s times %s in %s = %s", text(a), text(inverse), s.Text, text(product))
			}
			if c, err := tower.Compare(u, product, one); c != 0 && err == api.OK {
				t.Errorf("%s times %s in %s is %d", text(a), text(inverse), s.Text, c)
			}
			if difference := realOf(one[0]).Mul(v.of(a), v.of(inverse)); order(difference, realOf(one[0])) != 0 {
				t.Errorf("Inverse of %s in %s = %s", text(a), s.Text, text(inverse))
			}
		}
		if found < 12 {
			t.Errorf("%s: only %d inverses", s.Text, found)
		}
	}
}

// P6.5: the square of a root has the value of the radicand, and its sign is 1.
func TestRootSquared(t *testing.T) {
	for _, s := range sample.Extensions() {
		u := sample.Tower(s.Text)
		if len(u.Radicands) == 0 {
			continue
		}
		radicand := u.Radicands[len(u.Radicands)-1]
		root, err := tower.Root(u)
		if got := signOutcome(tower.Sign(u, root)); err != api.OK || got != "1" {
			t.Errorf("the root in %s has the sign %s", s.Text, got)
		}
		if got, want := outcome(tower.Mul(u, root, root)), text(radicand)+strings.Repeat(" 0", len(radicand)); got != want {
			t.Errorf("the square of the root in %s = %s", s.Text, got)
		}
		if v := valuerOf(u); order(v.of(root), v[len(v)-1]) != 0 {
			t.Errorf("the root in %s is %s", s.Text, text(root))
		}
	}
}

// embedded returns the text of the element of u with the value of that with the
// text x.
func embedded(u api.Tower, x string) string {
	if x == refused {
		return refused
	}
	return outcome(tower.Embed(u, sample.Numbers(x)))
}

// P6.5: embedding changes neither values nor signs, sums and products.
func TestEmbedded(t *testing.T) {
	for i, s := range sample.Extensions() {
		lower := sample.Tower(s.Text)
		for _, d := range []string{"2", "9", "3 1", "5 0 1/2 0"} {
			u, err := tower.Extend(lower, slices.Concat(sample.Numbers(d), slices.Repeat(sample.Numbers("0"), 16))[:size(lower)])
			if err != api.OK {
				continue
			}
			v := valuerOf(u)
			list := s.All(6, 4, uint64(i)+300)
			for k, a := range list {
				x, y := text(a), text(list[(k*3+1)%len(list)])
				for n, operate := range []func(api.Tower, []api.Ratio, []api.Ratio) ([]api.Ratio, api.Errno){tower.Add, tower.Sub, tower.Mul} {
					if got, want := then(u, operate, embedded(u, x), embedded(u, y)), embedded(u, then(lower, operate, x, y)); got != want {
						t.Errorf("operation %d of %s and %s in %s = %s instead of %s", n, x, y, towerText(u), got, want)
					}
				}
				wide := sample.Numbers(embedded(u, x))
				if order(v.of(wide), valuerOf(lower).of(a)) != 0 || signOutcome(tower.Sign(u, wide)) != signOutcome(tower.Sign(lower, a)) {
					t.Errorf("%s, embedded in %s = %s", x, towerText(u), text(wide))
				}
			}
		}
	}
}

package sketch_test

import (
	"math/big"
	"slices"
	"strings"
	"testing"

	"workpiece/api"
	"workpiece/rational"
	"workpiece/sample"
	"workpiece/sketch"
)

// grids returns lists of 4 points, at which constraints often hold.
func grids(seed uint64) [][][2]api.Ratio {
	var out [][][2]api.Ratio
	for i := range 16 {
		out = append(out, grid(4, 1+i/10, seed+uint64(i)*1000))
	}
	return out
}

// isZero reports whether all residuals are 0.
func isZero(residuals []api.Ratio) bool { return strings.Trim(text(residuals), "0 ") == "" }

// checkAt checks the residuals and the gradient of a valid constraint.
func checkAt(t *testing.T, c api.Constraint, points [][2]api.Ratio) {
	t.Helper()
	if got, want := residualOutcome(sketch.Residual(c, points)), wantResidual(c, points); got != want {
		t.Errorf("Residual(%+v, %v) = %s instead of %s", c, points, got, want)
	}
	if got, want := gradientOutcome(sketch.Gradient(c, points)), wantGradient(c, points); got != want {
		t.Errorf("Gradient(%+v, %v) = %s instead of %s", c, points, got, want)
	}
}

// P9.1: residuals and gradients of all constraints, as in the table of the chapter.
func TestResidual(t *testing.T) {
	zeros := map[int]int{}
	for i, c := range sample.Constraints(4) {
		for _, points := range append(grids(uint64(i)), grid(6, 3, uint64(i)), sample.Places(4, 2, uint64(i)), sample.Places(5+i%4, 5, uint64(i)+3000)) {
			checkAt(t, c, points)
			if residuals, _ := sketch.Residual(c, points); isZero(residuals) {
				zeros[c.Kind]++
			}
		}
	}
	for kind := api.CDistance; kind <= api.CEqual; kind++ {
		if zeros[kind] < 5 {
			t.Errorf("only %d constraints of the kind %d hold", zeros[kind], kind)
		}
	}
}

// P9.1: nothing is too large with short coordinates.
func TestResidualSize(t *testing.T) {
	nines := "999999999999"
	var extremes []string
	for _, den := range []string{nines, "999999999998", "999999999989", "999999999961", "1"} {
		extremes = append(extremes, rational.Print(sample.Fraction(nines, den)), rational.Print(sample.Fraction("-999999999997", den)))
	}
	for i, c := range sample.Constraints(4) {
		if c.Kind == api.CDistance {
			c.Value = number("999999999998/" + nines)
		}
		checkAt(t, c, sample.Places(4, 12, uint64(i)))
		var words []string
		for k := range 8 {
			words = append(words, extremes[(i*7+k*(1+i%3))%len(extremes)])
		}
		checkAt(t, c, pairs(strings.Join(words, " ")))
	}
}

// P9.1: the points have to be as many as the indices say, at most 8, and all of
// their coordinates short.
func TestResidualRefused(t *testing.T) {
	check := func(name string, c api.Constraint, points [][2]api.Ratio) {
		t.Helper()
		if got := residualOutcome(sketch.Residual(c, points)); got != refused {
			t.Errorf("Residual of %.200q, %s: %s", c.Value, name, got)
		}
		if got := gradientOutcome(sketch.Gradient(c, points)); got != refused {
			t.Errorf("Gradient of %.200q, %s: %s", c.Value, name, got)
		}
	}
	for _, c := range sample.InvalidConstraints() {
		check("a stranger", c, grid(8, 3, 1))
	}
	for _, c := range sample.Constraints(4)[:200] {
		check("no points", c, nil)
		check("too few points", c, grid(slices.Max(sample.Indices(c)), 3, 2))
		check("9 points", c, grid(9, 3, 3))
		check("many points", c, slices.Repeat(grid(1, 3, 4), 1<<16))
	}
	wrong := append(sample.InvalidFractions(), sample.Numbers("1000000000000 1/1000000000000 -1000000000000/7")...)
	for _, c := range sample.Constraints(3) {
		for i, r := range wrong {
			points := grid(4, 3, 5)
			points[i%4][i/4%2] = r
			check("a coordinate that is not short", c, points)
		}
	}
	for i := range 16 {
		points := grid(8, 3, 6)
		points[i/2][i%2] = number("1000000000000")
		check("any coordinate that is not short", api.Constraint{Kind: api.CHorizontal, P: 3, Q: 5}, points)
	}
}

// P9.4: half of the difference of the residuals at two points is the product of the
// gradient and the vector between them, if all points move.
func TestDerivative(t *testing.T) {
	for i, c := range sample.Constraints(4) {
		points, vectors := sample.Places(4+i%5, 4, uint64(i)), sample.Places(4+i%5, 2, uint64(i)+5000)
		moved := func(operate func(a, b api.Ratio) (api.Ratio, api.Errno)) []api.Ratio {
			var out [][2]api.Ratio
			for k, p := range points {
				x, _ := operate(p[0], vectors[k][0])
				y, _ := operate(p[1], vectors[k][1])
				out = append(out, [2]api.Ratio{x, y})
			}
			list, err := sketch.Residual(c, out)
			if err != api.OK {
				t.Fatalf("Residual(%+v, %v): %d", c, out, err)
			}
			return list
		}
		after, before := moved(rational.Add), moved(rational.Sub)
		gradient, err := sketch.Gradient(c, points)
		if len(gradient) != len(after) || err != api.OK {
			t.Fatalf("%d gradients of %+v: %d", len(gradient), c, err)
		}
		for k, g := range gradient {
			difference := new(big.Rat).Sub(value(after[k]), value(before[k]))
			product := new(big.Rat)
			for p, slope := range g {
				product.Add(product, new(big.Rat).Mul(value(slope[0]), value(vectors[p][0])))
				product.Add(product, new(big.Rat).Mul(value(slope[1]), value(vectors[p][1])))
			}
			if difference.Mul(difference, big.NewRat(1, 2)).Cmp(product) != 0 {
				t.Errorf("%+v: half of the difference is %s, the product %s", c, difference, product)
			}
		}
	}
}

// P9.5: points that a constraint does not use make no difference to its residuals
// and its gradient, which is 0 for them.
func TestUnused(t *testing.T) {
	for i, c := range sample.Constraints(4) {
		points := sample.Places(8, 3, uint64(i))
		want, gradient := residualOutcome(sketch.Residual(c, points)), wantGradient(c, points)
		for n := slices.Max(sample.Indices(c)) + 1; n <= 8; n++ {
			others := sample.Places(n, 6, uint64(i)+7000)
			for _, k := range sample.Indices(c) {
				others[k] = points[k]
			}
			if got := residualOutcome(sketch.Residual(c, others)); got != want {
				t.Errorf("Residual(%+v, %v) = %s instead of %s", c, others, got, want)
			}
			if got := gradientOutcome(sketch.Gradient(c, others)); got != wantGradient(c, others) || n == 8 && got != gradient {
				t.Errorf("Gradient(%+v, %v) = %s", c, others, got)
			}
		}
		g, _ := sketch.Gradient(c, points)
		for k := range points {
			for _, list := range g {
				if !slices.Contains(sample.Indices(c), k) && text(list[k][:]) != "0 0" {
					t.Errorf("Gradient(%+v) is %s for point %d", c, text(list[k][:]), k)
				}
			}
		}
	}
}

// A congruence moves points, rotates them by an angle with a rational sine and
// cosine, and mirrors them.
type congruence struct {
	cosine, sine *big.Rat
	mirrored     bool
	move         [2]*big.Rat
}

// congruences returns congruences of all sorts. The sine and cosine are made of the
// tangent of half of the angle.
func congruences() []congruence {
	var out []congruence
	for i, tangent := range []*big.Rat{big.NewRat(0, 1), big.NewRat(1, 1), big.NewRat(1, 2), big.NewRat(-2, 3), big.NewRat(5, 1), big.NewRat(-7, 11)} {
		square := new(big.Rat).Mul(tangent, tangent)
		below := new(big.Rat).Add(big.NewRat(1, 1), square)
		cosine := new(big.Rat).Quo(new(big.Rat).Sub(big.NewRat(1, 1), square), below)
		sine := new(big.Rat).Quo(new(big.Rat).Add(tangent, tangent), below)
		move := [2]*big.Rat{big.NewRat(int64(3*i), 7), big.NewRat(int64(i*i-5), 1)}
		out = append(out, congruence{cosine, sine, false, move}, congruence{cosine, sine, true, move})
	}
	return out
}

// apply returns where g moves the points.
func (g congruence) apply(points [][2]api.Ratio) [][2]api.Ratio {
	var out [][2]api.Ratio
	for _, p := range values(points) {
		if g.mirrored {
			p[0].Neg(p[0])
		}
		x := new(big.Rat).Sub(new(big.Rat).Mul(g.cosine, p[0]), new(big.Rat).Mul(g.sine, p[1]))
		y := new(big.Rat).Add(new(big.Rat).Mul(g.sine, p[0]), new(big.Rat).Mul(g.cosine, p[1]))
		out = append(out, [2]api.Ratio{ofValue(x.Add(x, g.move[0])), ofValue(y.Add(y, g.move[1]))})
	}
	return out
}

// P9.3: congruent points have the same residuals, except for the sign of COnLine,
// and those of CMidpoint are 0 for the same points.
func TestCongruence(t *testing.T) {
	changed, zeros := 0, map[int]int{}
	for i, c := range sample.Constraints(4) {
		if c.Kind == api.CFix || c.Kind == api.CHorizontal || c.Kind == api.CVertical {
			continue
		}
		for _, points := range append(grids(uint64(i)), sample.Places(4, 2, uint64(i))) {
			before, errBefore := sketch.Residual(c, points)
			for k, g := range congruences() {
				after, errAfter := sketch.Residual(c, g.apply(points))
				if errBefore != api.OK || errAfter != api.OK {
					t.Fatalf("%+v: %d, %d", c, errBefore, errAfter)
				}
				if isZero(before) != isZero(after) {
					t.Errorf("%+v at %v, congruence %d: %s and %s", c, points, k, text(before), text(after))
				}
				if isZero(before) {
					zeros[c.Kind]++
				}
				switch negative, _ := rational.Sub(number("0"), after[0]); {
				case c.Kind == api.CMidpoint || slices.Equal(before, after):
				case c.Kind == api.COnLine && before[0] == negative:
					changed++
				default:
					t.Errorf("%+v at %v, congruence %d: %s and %s", c, points, k, text(before), text(after))
				}
			}
		}
	}
	if changed < 100 {
		t.Errorf("only %d residuals change their signs", changed)
	}
	for _, kind := range []int{api.CDistance, api.COnLine, api.CPerpendicular, api.CMidpoint, api.CEqual} {
		if zeros[kind] < 12 {
			t.Errorf("only %d residuals of the kind %d are 0", zeros[kind], kind)
		}
	}
}

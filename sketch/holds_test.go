package sketch_test

import (
	"math/big"
	"slices"
	"strings"
	"testing"

	"workpiece/api"
	"workpiece/sample"
	"workpiece/sketch"
	"workpiece/tower"
)

// checkHolds checks Holds of a constraint that is valid for the points, and returns
// the outcome.
func checkHolds(t *testing.T, c api.Constraint, u api.Tower, points [][2][]api.Ratio) string {
	t.Helper()
	got, want := holdsOutcome(sketch.Holds(c, u, points)), wantHolds(c, u, points)
	if got != want {
		t.Errorf("Holds(%+v, %v, %v) = %s instead of %s", c, u, points, got, want)
	}
	return got
}

// chosen returns every so manieth of the constraints for 4 points, from the one with
// the index first on.
func chosen(first int, step int) []api.Constraint {
	var out []api.Constraint
	all := sample.Constraints(4)
	for i := first; i < len(all); i += step {
		out = append(out, all[i])
	}
	return out
}

// points returns count points with coordinates that are among the elements.
func points(elements [][]api.Ratio, count int, seed uint64) [][2][]api.Ratio {
	random := sample.Bytes(2*count, seed)
	var out [][2][]api.Ratio
	for i := range count {
		out = append(out, [2][]api.Ratio{elements[int(random[2*i])%len(elements)], elements[int(random[2*i+1])%len(elements)]})
	}
	return out
}

// P9.1: constraints on points in towers of all levels, with the operations in the
// order of the chapter.
func TestHolds(t *testing.T) {
	outcomes := map[string]int{}
	for i, s := range sample.Extensions() {
		u := sample.Tower(s.Text)
		step := 1 + len(u.Radicands)*len(u.Radicands)*len(u.Radicands)
		for k, c := range chosen(i%step, step) {
			seed := uint64(i)<<20 + uint64(k)<<8
			for _, elements := range [][][]api.Ratio{s.Small(3, seed), s.All(3, 8, seed)} {
				outcomes[checkHolds(t, c, u, points(elements, 4+k%3, seed))]++
			}
		}
	}
	if outcomes["true"] < 100 || outcomes["false"] < 1000 {
		t.Errorf("the outcomes %v", outcomes)
	}
}

// P9.1: points with coordinates of which operations are too large, or nearly so.
func TestHoldsTooLarge(t *testing.T) {
	nines, many := sample.Nines(), sample.Power(99)
	var elements [][]api.Ratio
	for _, s := range []string{"0", "1", "-1", "1/3", nines, "-" + nines, "-" + nines[:199] + "8", "5" + nines[:199], many, "-" + many, many + "0", "8" + many[1:], "6" + many[1:], "1/" + many, "1/" + many + "0", "7/" + many[:60]} {
		elements = append(elements, sample.Numbers(s))
	}
	outcomes := map[string]map[int]int{refused: {}, "true": {}, "false": {}}
	for i, c := range sample.Constraints(4) {
		for k := range 24 {
			outcomes[checkHolds(t, c, api.Tower{}, points(elements, 4, uint64(i)<<20+uint64(k)<<8))][c.Kind]++
		}
	}
	for kind := api.CFix; kind <= api.CEqual; kind++ {
		if outcomes[refused][kind] < 5 || outcomes["false"][kind] < 5 {
			t.Errorf("constraints of the kind %d: %d are refused, %d do not hold", kind, outcomes[refused][kind], outcomes["false"][kind])
		}
	}
}

// P9.1: both residuals of a constraint and their signs are computed, and each may be
// too large.
func TestHoldsBoth(t *testing.T) {
	nines, many := sample.Nines(), sample.Power(100)
	one := number("1")
	two, wide := sample.Tower("2"), many+" -1"
	for i, c := range []struct {
		c      api.Constraint
		t      api.Tower
		points [3]string
		want   string
	}{
		{api.Constraint{Kind: api.CFix, X: one, Y: number("-1")}, api.Tower{}, [3]string{"1; -1", "0; 0", "0; 0"}, "true"},
		{api.Constraint{Kind: api.CFix, X: one, Y: number("-1")}, api.Tower{}, [3]string{"7; " + nines, "0; 0", "0; 0"}, refused},
		{api.Constraint{Kind: api.CFix, X: number("-1"), Y: one}, api.Tower{}, [3]string{nines + "; 7", "0; 0", "0; 0"}, refused},
		{api.Constraint{Kind: api.CFix, X: one, Y: number("-1")}, two, [3]string{"7 0; " + wide, "0 0; 0 0", "0 0; 0 0"}, refused},
		{api.Constraint{Kind: api.CFix, X: number("-1"), Y: one}, two, [3]string{wide + "; 7 0", "0 0; 0 0", "0 0; 0 0"}, refused},
		{api.Constraint{Kind: api.CFix, X: number("-1"), Y: one}, two, [3]string{wide + "; 1 0", "0 0; 0 0", "0 0; 0 0"}, refused},
		{api.Constraint{Kind: api.CMidpoint, Q: 1, R: 2}, api.Tower{}, [3]string{"7; " + nines, "0; -1", "0; 0"}, refused},
		{api.Constraint{Kind: api.CMidpoint, Q: 1, R: 2}, api.Tower{}, [3]string{nines + "; 7", "-1; 0", "0; 0"}, refused},
		{api.Constraint{Kind: api.CMidpoint, Q: 1, R: 2}, two, [3]string{"7 0; " + wide, "0 0; 0 0", "0 0; 1 0"}, refused},
		{api.Constraint{Kind: api.CMidpoint, Q: 1, R: 2}, two, [3]string{wide + "; 7 0", "0 0; 0 0", "1 0; 0 0"}, refused},
		{api.Constraint{Kind: api.CVertical, Q: 1}, two, [3]string{"7 0; " + wide, "0 0; 0 0", "0 0; 0 0"}, "false"},
		{api.Constraint{Kind: api.CHorizontal, Q: 1}, two, [3]string{"7 0; " + wide, "0 0; 0 0", "0 0; 0 0"}, refused},
		{api.Constraint{Kind: api.CHorizontal, Q: 1}, two, [3]string{"7 0; " + wide, "0 0; " + wide, "0 0; 0 0"}, "true"},
	} {
		var list [][2][]api.Ratio
		for _, p := range c.points {
			x, y, _ := strings.Cut(p, ";")
			list = append(list, [2][]api.Ratio{sample.Numbers(x), sample.Numbers(y)})
		}
		if got := checkHolds(t, c.c, c.t, list); got != c.want {
			t.Errorf("%d: %s instead of %s", i, got, c.want)
		}
	}
}

// occurs reports whether a coordinate of a point occurs in the residuals of c.
func occurs(c api.Constraint, point int, axis int) bool {
	return slices.Contains(sample.Indices(c), point) && (c.Kind != api.CHorizontal || axis == 1) && (c.Kind != api.CVertical || axis == 0)
}

// P9.1, P9.5: the coordinates that occur in the residuals have to be elements; the
// other ones make no difference, whatever they are.
func TestHoldsElements(t *testing.T) {
	for i, s := range sample.Extensions() {
		u := sample.Tower(s.Text)
		n := 1 << len(u.Radicands)
		foreign := [][]api.Ratio{nil, {}, slices.Repeat(sample.Numbers("1"), n+1), slices.Repeat(sample.Numbers("1"), 2*n), slices.Repeat(sample.Numbers("1"), n-1), slices.Repeat(sample.Numbers("1"), 1<<10)}
		for k, r := range sample.InvalidFractions() {
			a := slices.Repeat(sample.Numbers("1"), n)
			a[k%n] = r
			foreign = append(foreign, a)
		}
		list := points(s.Small(4, uint64(i)), 4, uint64(i)+77)
		for k, c := range chosen(i%20, 20) {
			want := holdsOutcome(sketch.Holds(c, u, list))
			for place := range 8 {
				changed := slices.Clone(list)
				changed[place/2][place%2] = foreign[(i+k+place)%len(foreign)]
				if occurs(c, place/2, place%2) {
					want = refused
				} else {
					want = holdsOutcome(sketch.Holds(c, u, list))
				}
				if got := holdsOutcome(sketch.Holds(c, u, changed)); got != want {
					t.Errorf("Holds(%+v) in %s = %s instead of %s with coordinate %d of point %d changed to %.100q", c, s.Text, got, want, place%2, place/2, changed[place/2][place%2])
				}
			}
			if got := holdsOutcome(sketch.Holds(c, u, append(slices.Clone(list), make([][2][]api.Ratio, 100)...))); got != holdsOutcome(sketch.Holds(c, u, list)) {
				t.Errorf("Holds(%+v) in %s = %s with more points", c, s.Text, got)
			}
		}
	}
}

// P9.1: constraints that are not valid for so many points, and towers that are not.
func TestHoldsRefused(t *testing.T) {
	list := elementsOf(api.Tower{}, grid(8, 2, 1))
	for _, c := range sample.InvalidConstraints() {
		if got := holdsOutcome(sketch.Holds(c, api.Tower{}, list)); got != refused {
			t.Errorf("Holds(%.300q) = %s", c.Value, got)
		}
	}
	for _, c := range sample.Constraints(4) {
		for _, short := range [][][2][]api.Ratio{nil, list[:slices.Max(sample.Indices(c))]} {
			if got := holdsOutcome(sketch.Holds(c, api.Tower{}, short)); got != refused {
				t.Errorf("Holds(%+v) with %d points = %s", c, len(short), got)
			}
		}
	}
	for i, u := range sample.InvalidTowers() {
		n := 1 << min(len(u.Radicands), 6)
		for _, element := range [][]api.Ratio{nil, sample.Numbers("1"), sample.Numbers("1 1"), slices.Repeat(sample.Numbers("0"), n)} {
			for _, c := range chosen(i%30, 30) {
				if got := holdsOutcome(sketch.Holds(c, u, slices.Repeat([][2][]api.Ratio{{element, element}}, 4))); got != refused {
					t.Errorf("%d: Holds(%+v) = %s", i, c, got)
				}
			}
		}
	}
}

// P9.1: there may be more points than a sketch has.
func TestHoldsMany(t *testing.T) {
	list := elementsOf(api.Tower{}, grid(1<<12, 2, 2))
	for i := 9; i < len(list); i += 97 {
		checkHolds(t, api.Constraint{Kind: api.CVertical, P: i, Q: i - 9}, api.Tower{}, list)
		checkHolds(t, api.Constraint{Kind: api.CEqual, P: i, Q: i - 9, R: 5}, api.Tower{}, list)
		if got := holdsOutcome(sketch.Holds(api.Constraint{Kind: api.CVertical, P: i}, api.Tower{}, list[:i])); got != refused {
			t.Errorf("Holds with %d points = %s", i, got)
		}
	}
}

// P9.2: at points with rational coordinates, a constraint holds in every tower
// exactly if its residuals are 0, whichever elements have these values.
func TestHoldsRational(t *testing.T) {
	outcomes := map[bool]int{}
	for i, s := range sample.Extensions() {
		u := sample.Tower(s.Text)
		step := 2 + 2*len(u.Radicands)*len(u.Radicands)
		for k, c := range chosen(i%step, step) {
			for _, rationals := range append(grids(uint64(i * k))[:4], sample.Places(4, 3, uint64(i*k))) {
				list := elementsOf(u, rationals)
				for m := range list {
					if len(s.Vanishing) > 0 {
						vanishing := sample.Numbers(s.Vanishing[m%len(s.Vanishing)])
						list[m][k%2], _ = tower.Add(u, list[m][k%2], vanishing)
					}
				}
				residuals, _ := sketch.Residual(c, rationals)
				holds, err := sketch.Holds(c, u, list)
				if holds != isZero(residuals) || err != api.OK {
					t.Errorf("Holds(%+v, %s, %v) = %t, %d", c, s.Text, rationals, holds, err)
				}
				outcomes[holds]++
			}
		}
	}
	if outcomes[true] < 100 || outcomes[false] < 1000 {
		t.Errorf("the outcomes %v", outcomes)
	}
}

// A surd is the number a + b * sqrt(2), which is 0 exactly if a and b are.
type surd [2]*big.Rat

// surds returns the table of residuals for surds.
func surds(points [][2]surd) table[surd] {
	return table[surd]{
		points:   points,
		constant: func(r api.Ratio) surd { return surd{value(r), new(big.Rat)} },
		add:      func(a, b surd) surd { return surd{new(big.Rat).Add(a[0], b[0]), new(big.Rat).Add(a[1], b[1])} },
		sub:      func(a, b surd) surd { return surd{new(big.Rat).Sub(a[0], b[0]), new(big.Rat).Sub(a[1], b[1])} },
		mul:      times,
	}
}

// times returns the product of a and b.
func times(a, b surd) surd {
	product := func(i, k int) *big.Rat { return new(big.Rat).Mul(a[i], b[k]) }
	twice := product(1, 1)
	twice.Add(twice, twice)
	return surd{twice.Add(twice, product(0, 0)), new(big.Rat).Add(product(0, 1), product(1, 0))}
}

// surdOf returns the value of an element of a tower whose roots are surds.
func surdOf(a []api.Ratio, roots []surd) surd {
	sum := surd{new(big.Rat), new(big.Rat)}
	for i, r := range a {
		term := surd{value(r), new(big.Rat)}
		for k, root := range roots {
			if i>>k&1 == 1 {
				term = times(term, root)
			}
		}
		sum[0].Add(sum[0], term[0])
		sum[1].Add(sum[1], term[1])
	}
	return sum
}

// P9.1: a constraint holds exactly if the residuals have the value 0, in towers
// whose elements have values that are surds.
func TestHoldsExactly(t *testing.T) {
	surdAt := func(a, b int64) surd { return surd{big.NewRat(a, 1), big.NewRat(b, 1)} }
	outcomes := map[bool]int{}
	for i, s := range []struct {
		tower string
		roots []surd
	}{
		{"2", []surd{surdAt(0, 1)}}, {"8", []surd{surdAt(0, 2)}}, {"9", []surd{surdAt(3, 0)}}, {"2; 3 2", []surd{surdAt(0, 1), surdAt(1, 1)}}, {"4; 5 -2", []surd{surdAt(2, 0), surdAt(1, 0)}}, {"2; 3 2; 2 1 1 0", []surd{surdAt(0, 1), surdAt(1, 1), surdAt(1, 1)}},
	} {
		u := sample.Tower(s.tower)
		elements := (sample.Extension{Text: s.tower}).Small(12, uint64(i))
		for k, c := range chosen(0, 1) {
			// Few different coordinates, so that constraints often hold.
			list := points(elements[k%9:k%9+3], 4, uint64(i)<<20+uint64(k))
			var exactly [][2]surd
			for _, p := range list {
				exactly = append(exactly, [2]surd{surdOf(p[0], s.roots), surdOf(p[1], s.roots)})
			}
			want := true
			for _, r := range surds(exactly).residuals(c) {
				want = want && r[0].Sign() == 0 && r[1].Sign() == 0
			}
			if got, err := sketch.Holds(c, u, list); got != want || err != api.OK {
				t.Errorf("Holds(%+v, %s, %v) = %t, %d", c, s.tower, list, got, err)
			}
			outcomes[want]++
		}
	}
	if outcomes[true] < 100 || outcomes[false] < 500 {
		t.Errorf("the outcomes %v", outcomes)
	}
}

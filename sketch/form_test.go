package sketch_test

import (
	"slices"
	"strings"
	"testing"

	"workpiece/api"
	"workpiece/rational"
	"workpiece/sample"
	"workpiece/sketch"
)

// checkForm checks that c is valid for n points exactly if the table of the chapter
// says so.
func checkForm(t *testing.T, c api.Constraint, n int) {
	t.Helper()
	if got := sketch.Valid(sample.Sketch(n, c)); got != sample.IsConstraint(c, n) {
		t.Errorf("Valid(%d points, %+v) = %t", n, c, got)
	}
}

// P9.1: the examples of the chapter.
func TestExamples(t *testing.T) {
	points := pairs("0 0 3 4 6 8")
	five, four := number("5"), number("4")
	for i, c := range []struct{ got, want string }{
		{residualOutcome(sketch.Residual(api.Constraint{Kind: api.CDistance, Q: 1, Value: five}, points)), "0"},
		{residualOutcome(sketch.Residual(api.Constraint{Kind: api.CDistance, Q: 1, Value: four}, points)), "9"},
		{residualOutcome(sketch.Residual(api.Constraint{Kind: api.COnLine, P: 1, R: 2}, points)), "0"},
		{residualOutcome(sketch.Residual(api.Constraint{Kind: api.CMidpoint, P: 1, R: 2}, points)), "0 0"},
		{residualOutcome(sketch.Residual(api.Constraint{Kind: api.CEqual, P: 1, R: 2}, points)), "0"},
		{gradientOutcome(sketch.Gradient(api.Constraint{Kind: api.CDistance, P: 1, Value: five}, points)), "-6 -8, 6 8, 0 0"},
	} {
		if c.got != c.want {
			t.Errorf("%d: %s instead of %s", i, c.got, c.want)
		}
	}
	if got := sketch.Uses(api.Constraint{Kind: api.CPerpendicular, P: 2, S: 1}); !slices.Equal(got, []int{0, 1, 2}) {
		t.Errorf("Uses = %v", got)
	}
	for _, c := range []api.Constraint{{Kind: api.CDistance}, {Kind: api.CDistance, Value: five}, {Kind: api.COnLine, Q: 1, R: 3}, {Kind: api.CHorizontal, Q: 1, Value: number("1")}} {
		if sketch.Valid(sample.Sketch(3, c)) {
			t.Errorf("Valid(%+v) = true", c)
		}
	}
}

// P9.1: constraints with all values of all fields.
func TestValidFields(t *testing.T) {
	numbers := append(sample.Numbers("1/2 0 -3"), api.Ratio{}, api.Ratio{Num: "2", Den: "4"})
	valid := 0
	for kind := -1; kind <= 10; kind++ {
		for i := range 5 * 5 * 5 * 5 {
			c := api.Constraint{Kind: kind, P: i%5 - 1, Q: i/5%5 - 1, R: i/25%5 - 1, S: i/125 - 1}
			for k := range 5 * 5 * 5 {
				c.X, c.Y, c.Value = numbers[k%5], numbers[k/5%5], numbers[k/25]
				checkForm(t, c, 3)
			}
			c.X, c.Y, c.Value = api.Ratio{}, api.Ratio{}, api.Ratio{}
			for n := range 5 {
				checkForm(t, c, n)
				if sample.IsConstraint(c, n) {
					valid++
				}
			}
		}
	}
	if valid < 300 {
		t.Errorf("only %d constraints are valid", valid)
	}
}

// P9.1: values with as many digits as they can have, with more, and what is no
// fraction.
func TestValidValues(t *testing.T) {
	nines := strings.Repeat("9", 12)
	list := append(sample.SmallFractions(3), sample.InvalidFractions()...)
	list = append(list, sample.Numbers(nines+" -"+nines+" 1000000000000 -1000000000000 1/"+nines+" -1/"+nines+" 1/1000000000000 999999999998/"+nines+" -1000000000000/3 7/1000000000001 "+sample.Nines()+" 1/"+sample.Nines())...)
	list = append(list, api.Ratio{Num: "--" + nines, Den: "1"}, api.Ratio{Num: "-", Den: "1"}, api.Ratio{Num: "--1", Den: "1"}, api.Ratio{Num: "0" + nines, Den: "1"}, api.Ratio{Num: "1", Den: "-" + nines}, api.Ratio{Num: nines, Den: nines})
	accepted := 0
	for i, r := range list {
		for _, c := range []api.Constraint{
			{Kind: api.CFix, P: 1, X: r, Y: number("1")}, {Kind: api.CFix, P: 1, X: number("1"), Y: r}, {Kind: api.CFix, P: 1, X: r, Y: r}, {Kind: api.CDistance, P: 1, Value: r},
			{Kind: api.CFix, X: number("1"), Y: number("1"), Value: r}, {Kind: api.CDistance, Q: 1, Value: number("1"), X: r}, {Kind: api.CDistance, Q: 1, Value: number("1"), Y: r},
		} {
			checkForm(t, c, 2)
			if sample.IsConstraint(c, 2) {
				accepted++
			}
		}
		// Coordinates must be short in the same way.
		want := refused
		if sample.IsShort(r) {
			want = rational.Print(r)
		}
		for axis, c := range []api.Constraint{{Kind: api.CVertical, Q: 1}, {Kind: api.CHorizontal, Q: 1}} {
			points := pairs("0 0 0 0")
			points[0][axis] = r
			if got := residualOutcome(sketch.Residual(c, points)); got != want {
				t.Errorf("%d: %s instead of %s", i, got, want)
			}
		}
	}
	if accepted < 60 {
		t.Errorf("only %d constraints are valid", accepted)
	}
}

// P9.1: sketches with too few and too many points and constraints, and with one
// constraint that is not valid.
func TestValidSketch(t *testing.T) {
	for _, n := range []int{-1 << 63, -1, 0, 1, 2, 7, 8, 9, 1 << 40} {
		if got := sketch.Valid(sample.Sketch(n)); got != (n >= 1 && n <= 8) {
			t.Errorf("Valid with %d points = %t", n, got)
		}
	}
	fine := api.Constraint{Kind: api.CVertical, P: 7}
	for _, count := range []int{1, 15, 16, 17, 1 << 16} {
		list := slices.Repeat([]api.Constraint{fine}, count)
		for _, n := range []int{7, 8, 9} {
			if got := sketch.Valid(sample.Sketch(n, list...)); got != (n == 8 && count <= 16) {
				t.Errorf("Valid with %d points and %d constraints = %t", n, count, got)
			}
		}
		for i := range min(count, 16) {
			list[i] = api.Constraint{}
			if sketch.Valid(sample.Sketch(8, list...)) {
				t.Errorf("Valid although constraint %d of %d is not", i, count)
			}
			list[i] = fine
		}
	}
	for _, s := range sample.Sketches(400, 1) {
		if !sketch.Valid(s) {
			t.Errorf("Valid(%+v) = false", s)
		}
	}
	for _, c := range sample.InvalidConstraints() {
		if sketch.Valid(sample.Sketch(8, c)) {
			t.Errorf("Valid(%.300q) = true", c.Value)
		}
	}
}

// P9.1: the same sketch, and one with another value of any field, valid or not.
func TestSame(t *testing.T) {
	list := append(sample.Sketches(60, 2), sample.Sketch(0), sample.Sketch(-5), sample.Sketch(1<<40), sample.Sketch(3, sample.InvalidConstraints()...))
	for i, a := range list {
		b := sample.Sketch(a.Points, slices.Clone(a.Constraints)...)
		if !sketch.Same(a, b) {
			t.Errorf("%d: Same = false", i)
		}
		b.Points++
		if sketch.Same(a, b) {
			t.Errorf("%d: Same although the number of points is another one", i)
		}
		b.Points--
		for k := range b.Constraints {
			c := &b.Constraints[k]
			for field, change := range []func(c *api.Constraint){
				func(c *api.Constraint) { c.Kind++ }, func(c *api.Constraint) { c.P++ }, func(c *api.Constraint) { c.Q++ }, func(c *api.Constraint) { c.R++ }, func(c *api.Constraint) { c.S++ },
				func(c *api.Constraint) { c.X.Num += "0" }, func(c *api.Constraint) { c.X.Den += "0" }, func(c *api.Constraint) { c.Y.Num += "0" }, func(c *api.Constraint) { c.Y.Den += "0" }, func(c *api.Constraint) { c.Value.Num += "0" }, func(c *api.Constraint) { c.Value.Den += "0" },
			} {
				kept := *c
				change(c)
				if sketch.Same(a, b) || sketch.Same(b, a) {
					t.Errorf("%d: Same although field %d of constraint %d is changed", i, field, k)
				}
				*c = kept
			}
		}
		b.Constraints = append(b.Constraints, api.Constraint{})
		if sketch.Same(a, b) || sketch.Same(b, a) {
			t.Errorf("%d: Same with a further constraint", i)
		}
	}
	if !sketch.Same(api.Sketch{Points: 1}, sample.Sketch(1, []api.Constraint{}...)) {
		t.Error("Same tells nil and empty apart")
	}
}

// P9.1: the indices in the row of the kind, whatever they are, and no others.
func TestUses(t *testing.T) {
	indices := []int{-1 << 63, -7, -1, 0, 1, 2, 8, 1<<63 - 1}
	for _, kind := range []int{-1 << 63, -1, 0, 1, 2, 3, 4, 5, 6, 7, 8, 9, 10, 1<<63 - 1} {
		for i := range 8 * 8 * 8 * 8 {
			c := api.Constraint{Kind: kind, P: indices[i%8], Q: indices[i/8%8], R: indices[i/64%8], S: indices[i/512], Value: api.Ratio{Num: "x"}}
			want := slices.Clone(sample.Indices(c))
			slices.Sort(want)
			if got := sketch.Uses(c); !slices.Equal(got, slices.Compact(want)) {
				t.Fatalf("Uses(%+v) = %v", c, got)
			}
		}
	}
}

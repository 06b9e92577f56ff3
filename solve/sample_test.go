package solve_test

import (
	"slices"
	"testing"

	"workpiece/api"
	"workpiece/rational"
	"workpiece/sample"
	"workpiece/sketch"
	"workpiece/tower"
)

// of returns the sketch with n points and the given constraints.
func of(n int, list ...api.Constraint) api.Sketch { return api.Sketch{Points: n, Constraints: list} }

// fix returns the constraint that the point p is at (x, y).
func fix(p int, x string, y string) api.Constraint {
	return api.Constraint{Kind: api.CFix, P: p, X: sample.Number(x), Y: sample.Number(y)}
}

// distance returns the constraint that the points p and q have a distance.
func distance(p int, q int, value string) api.Constraint {
	return api.Constraint{Kind: api.CDistance, P: p, Q: q, Value: sample.Number(value)}
}

// tie returns a constraint of another kind.
func tie(kind int, points ...int) api.Constraint {
	l := append(points, 0, 0, 0)
	return api.Constraint{Kind: kind, P: l[0], Q: l[1], R: l[2], S: l[3]}
}

// base returns the sketch of the chapter's examples: n points, of which 0 and 1 are 4
// apart, with further constraints.
func base(n int, list ...api.Constraint) api.Sketch {
	return of(n, append([]api.Constraint{fix(0, "0", "0"), fix(1, "4", "0")}, list...)...)
}

// frameworks returns count sketches in which circles meet more often than in others:
// two points are near to each other, and most of the others have long distances from
// points before them.
func frameworks(count int, seed uint64) []api.Sketch {
	lengths := []string{"3", "13/4", "7/2", "19/5", "4", "3"}
	var out []api.Sketch
	for i := range count {
		own := seed + uint64(i)<<16
		s := of(3+i%4, fix(0, "0", "0"), fix(1, "1", "1/2"))
		for p := 2; p < s.Points; p++ {
			random := []byte(sample.Bytes(8, own+uint64(p)))
			q, r := int(random[0])%p, int(random[1])%p
			list := []api.Constraint{distance(p, q, lengths[int(random[2])%6]), distance(r, p, lengths[int(random[3])%6])}
			if q == r || random[4]%3 == 0 {
				list[1] = other(p, own+uint64(p)<<8)
			}
			s.Constraints = append(s.Constraints, list...)
		}
		out = append(out, sample.Mixed(s, own))
	}
	return out
}

// other returns a locus of the point p that is no circle with a given radius.
func other(p int, seed uint64) api.Constraint {
	for ; ; seed++ {
		if c := sample.Newest(p, seed); sample.IsLocus(c, p) && c.Kind != api.CDistance {
			return c
		}
	}
}

// A figure is a sketch, and points for which all of its constraints hold.
type figure struct {
	api.Sketch
	places [][2]api.Ratio
}

// fitted returns c with other values, so that it holds for the points, and false if it
// does not hold whatever they are.
func fitted(t *testing.T, c api.Constraint, places [][2]api.Ratio) (api.Constraint, bool) {
	t.Helper()
	switch c.Kind {
	case api.CFix:
		c.X, c.Y = places[c.P][0], places[c.P][1]
	case api.CDistance:
		unit := c
		unit.Value = sample.Number("1")
		list, err := sketch.Residual(unit, places)
		if err != api.OK {
			t.Fatalf("Residual(%+v, %v): %d", unit, places, err)
		}
		square, _ := rational.Add(list[0], unit.Value)
		length, ok := squareRoot(square)
		if !ok || length == sample.Number("0") {
			return c, false
		}
		c.Value = length
	}
	list, err := sketch.Residual(c, places)
	if err != api.OK {
		t.Fatalf("Residual(%+v, %v): %d", c, places, err)
	}
	return c, !slices.ContainsFunc(list, func(r api.Ratio) bool { return r.Num != "0" })
}

// figures returns count figures, whose points are in such places that many constraints
// hold for them.
func figures(t *testing.T, count int, seed uint64) []figure {
	xs, ys := sample.Numbers("0 3 4 8 -4 3/2 -5"), sample.Numbers("0 3 6 -3 0 2 12")
	var out []figure
	for i := range count {
		own := seed + uint64(i)<<24
		f := figure{Sketch: of(2 + i%5)}
		random := sample.Bytes(2*f.Points, own)
		for p := range f.Points {
			f.places = append(f.places, [2]api.Ratio{xs[int(random[2*p])%len(xs)], ys[int(random[2*p+1])%len(ys)]})
		}
		order := sample.Shuffled(f.Points, own)
		for k := range order {
			f.Constraints = append(f.Constraints, fittedAt(t, k, order, f.places, own+uint64(k)<<12)...)
		}
		f.Constraints = sample.Reordered(f.Constraints, sample.Shuffled(len(f.Constraints), own))
		out = append(out, f)
	}
	return out
}

// fittedAt returns constraints that tie the point with the place k in an order to those
// before it: one that determines it, or two loci, unless there are too few.
func fittedAt(t *testing.T, k int, order []int, places [][2]api.Ratio, seed uint64) []api.Constraint {
	t.Helper()
	var loci []api.Constraint
	for try := range 200 {
		c, ok := fitted(t, sample.Renumbered(sample.Newest(k, seed+uint64(try)), order), places)
		isKnown := func(other api.Constraint) bool {
			return c.Kind == other.Kind && slices.Equal(sketch.Uses(c), sketch.Uses(other))
		}
		switch {
		case !ok || slices.ContainsFunc(loci, isKnown) || c.Kind == api.CFix && k > 0 && try < 20:
		case c.Kind == api.CFix || c.Kind == api.CMidpoint:
			return []api.Constraint{c}
		default:
			if loci = append(loci, c); len(loci) == 2 {
				return loci
			}
		}
	}
	return loci
}

// A view is a solution with its coordinates in intervals, so that those of solutions
// in different towers can be compared.
type view struct {
	api.Solution
	at [][2]api.Interval
}

// viewOf returns the view of x.
func viewOf(t *testing.T, x api.Solution) view {
	t.Helper()
	out := view{Solution: x}
	for _, p := range x.Points {
		var at [2]api.Interval
		for axis := range at {
			near, err := tower.Enclose(x.Tower, p[axis], 20)
			if err != api.OK {
				t.Fatalf("Enclose(%v, %s): %d", x.Tower, text(p[axis]), err)
			}
			at[axis] = near
		}
		out.at = append(out.at, at)
	}
	return out
}

// viewsOf returns the views of the solutions in list.
func viewsOf(t *testing.T, list []api.Solution) []view {
	t.Helper()
	var out []view
	for _, x := range list {
		out = append(out, viewOf(t, x))
	}
	return out
}

// order returns -1, 0 or 1 if the point p of v comes before that of other, is equal to
// it, or comes after it.
func (v view) order(other view, p int) int {
	for axis := range 2 {
		one, two := v.at[p][axis], other.at[p][axis]
		switch {
		case rational.Compare(one.Hi, two.Lo) < 0:
			return -1
		case rational.Compare(two.Hi, one.Lo) < 0:
			return 1
		}
	}
	return 0
}

// equals reports whether all points of v and other are equal.
func (v view) equals(other view) bool {
	for p := range v.at {
		if v.order(other, p) != 0 {
			return false
		}
	}
	return len(v.at) == len(other.at)
}

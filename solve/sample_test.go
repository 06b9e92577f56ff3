package solve_test

import (
	"testing"

	"workpiece/api"
	"workpiece/rational"
	"workpiece/sample"
	"workpiece/tower"
)

// frameworks returns count sketches in which circles meet more often than in others:
// two points are near to each other, and most of the others have long distances from
// points before them.
func frameworks(count int, seed uint64) []api.Sketch {
	lengths := []string{"3", "13/4", "7/2", "19/5", "4", "3"}
	var out []api.Sketch
	for i := range count {
		own := seed + uint64(i)<<16
		s := sample.Sketch(3+i%4, sample.Fix(0, "0", "0"), sample.Fix(1, "1", "1/2"))
		for p := 2; p < s.Points; p++ {
			random := []byte(sample.Bytes(8, own+uint64(p)))
			q, r := int(random[0])%p, int(random[1])%p
			list := []api.Constraint{sample.Distance(p, q, lengths[int(random[2])%6]), sample.Distance(r, p, lengths[int(random[3])%6])}
			if q == r || random[4]%3 == 0 {
				list[1] = other(p, own+uint64(p)<<8)
			}
			s.Constraints = append(s.Constraints, list...)
		}
		out = append(out, sample.Mixed(s, own))
	}
	return out
}

// other returns a locus of the point p that is no circle with a given radius.
func other(p int, seed uint64) api.Constraint {
	for ; ; seed++ {
		if c := sample.Newest(p, seed); sample.IsLocus(c, p) && c.Kind != api.CDistance {
			return c
		}
	}
}

// A view is a solution with its coordinates in intervals, so that those of solutions
// in different towers can be compared.
type view struct {
	api.Solution
	at [][2]api.Interval
}

// viewOf returns the view of x.
func viewOf(t *testing.T, x api.Solution) view {
	t.Helper()
	out := view{Solution: x}
	for _, p := range x.Points {
		var at [2]api.Interval
		for axis := range at {
			near, err := tower.Enclose(x.Tower, p[axis], 20)
			if err != api.OK {
				t.Fatalf("Enclose(%v, %s): %d", x.Tower, text(p[axis]), err)
			}
			at[axis] = near
		}
		out.at = append(out.at, at)
	}
	return out
}

// viewsOf returns the views of the solutions in list.
func viewsOf(t *testing.T, list []api.Solution) []view {
	t.Helper()
	var out []view
	for _, x := range list {
		out = append(out, viewOf(t, x))
	}
	return out
}

// order returns -1, 0 or 1 if the point p of v comes before that of other, is equal to
// it, or comes after it.
func (v view) order(other view, p int) int {
	for axis := range 2 {
		one, two := v.at[p][axis], other.at[p][axis]
		switch {
		case rational.Compare(one.Hi, two.Lo) < 0:
			return -1
		case rational.Compare(two.Hi, one.Lo) < 0:
			return 1
		}
	}
	return 0
}

// equals reports whether all points of v and other are equal.
func (v view) equals(other view) bool {
	for p := range v.at {
		if v.order(other, p) != 0 {
			return false
		}
	}
	return len(v.at) == len(other.at)
}

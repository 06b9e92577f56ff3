package cluster_test

import (
	"fmt"
	"math/big"
	"slices"
	"strconv"
	"testing"

	"workpiece/api"
	"workpiece/cluster"
	"workpiece/sample"
	"workpiece/sketch"
)

// plan returns the construction of the valid sketch s.
func plan(t *testing.T, s api.Sketch) api.Construction {
	t.Helper()
	c, err := cluster.Plan(s)
	if err != api.OK {
		t.Fatalf("Plan(%+v): %d", s, err)
	}
	return c
}

// freedom returns the freedom of the valid sketch s.
func freedom(t *testing.T, s api.Sketch) int {
	t.Helper()
	n, err := cluster.Freedom(s)
	if err != api.OK {
		t.Fatalf("Freedom(%+v): %d", s, err)
	}
	return n
}

// P10.3: all constructions of a sketch place the same points.
func TestClosure(t *testing.T) {
	orders := 0
	for i, s := range sketches(1500, 5) {
		want := plan(t, s)
		for k := range 6 {
			c := constructed(s, chosen(uint64(i*6+k)))
			if !slices.Equal(c.Unplaced, want.Unplaced) || !cluster.Check(s, c) {
				t.Errorf("%+v: the construction %+v leaves other points than %+v", s, c, want)
			}
			if !slices.Equal(c.Steps, want.Steps) {
				orders++
			}
		}
	}
	if orders < 1000 {
		t.Errorf("only %d other constructions", orders)
	}
}

// moved returns the numbers of the indices in list, in ascending order.
func moved(list []int, numbers []int) []int {
	out := sample.Reordered(numbers, list)
	slices.Sort(out)
	return out
}

// inverse returns where each number is in order.
func inverse(order []int) []int {
	out := make([]int, len(order))
	for i, n := range order {
		out[n] = i
	}
	return out
}

// P10.3: other numbers of the points, and another order of the constraints, change
// nothing but the numbers.
func TestNumbers(t *testing.T) {
	for i, s := range sketches(3000, 6) {
		points, order := sample.Shuffled(s.Points, uint64(i)), sample.Shuffled(len(s.Constraints), uint64(i))
		other := sample.Sketch(s.Points)
		for _, c := range sample.Reordered(s.Constraints, order) {
			other.Constraints = append(other.Constraints, sample.Renumbered(c, points))
		}
		places := inverse(order)
		c := plan(t, s)
		mapped := api.Construction{Checks: moved(c.Checks, places), Unplaced: moved(c.Unplaced, points)}
		for _, step := range c.Steps {
			step.Point, step.First = points[step.Point], places[step.First]
			if step.Second >= 0 {
				second := places[step.Second]
				step.First, step.Second = min(step.First, second), max(step.First, second)
			}
			mapped.Steps = append(mapped.Steps, step)
		}
		if !cluster.Check(other, mapped) {
			t.Errorf("%+v, renumbered as %+v: %+v is no construction", s, other, mapped)
		}
		if got := plan(t, other).Unplaced; !slices.Equal(got, mapped.Unplaced) {
			t.Errorf("%+v, renumbered as %+v: %v is left instead of %v", s, other, got, mapped.Unplaced)
		}
		if got, want := freedom(t, other), freedom(t, s); got != want {
			t.Errorf("%+v, renumbered as %+v: Freedom = %d instead of %d", s, other, got, want)
		}
		var groups [][]int
		for _, group := range cluster.Components(s) {
			groups = append(groups, moved(group, points))
		}
		slices.SortFunc(groups, slices.Compare[[]int])
		if got := cluster.Components(other); fmt.Sprint(got) != fmt.Sprint(groups) {
			t.Errorf("%+v, renumbered as %+v: Components = %v instead of %v", s, other, got, groups)
		}
	}
}

// A graph is what a residual is as a function of x and y: xx, xy and yy are its second
// differences, and x and y are the first ones at 0.
type graph struct{ xx, xy, yy, x, y *big.Rat }

// graphs returns the graphs of the residuals of c in the coordinates of the point p.
// These functions are polynomials of degree 2 at most.
func graphs(t *testing.T, c api.Constraint, points [][2]api.Ratio, p int) []graph {
	t.Helper()
	at := func(x int, y int) []*big.Rat {
		there := slices.Clone(points)
		there[p] = [2]api.Ratio{sample.Number(strconv.Itoa(x)), sample.Number(strconv.Itoa(y))}
		list, err := sketch.Residual(c, there)
		if err != api.OK {
			t.Fatalf("Residual(%+v, %v): %d", c, there, err)
		}
		var out []*big.Rat
		for _, r := range list {
			v, _ := new(big.Rat).SetString(r.Num + "/" + r.Den)
			out = append(out, v)
		}
		return out
	}
	difference := func(a, b *big.Rat) *big.Rat { return new(big.Rat).Sub(a, b) }
	middle, right, left, up, down, corner := at(0, 0), at(1, 0), at(-1, 0), at(0, 1), at(0, -1), at(1, 1)
	var out []graph
	for i, m := range middle {
		x, y := difference(right[i], m), difference(up[i], m)
		out = append(out, graph{
			xx: difference(x, difference(m, left[i])),
			xy: difference(difference(corner[i], up[i]), x),
			yy: difference(y, difference(m, down[i])),
			x:  x,
			y:  y,
		})
	}
	return out
}

// isLinear reports whether the function is linear.
func (g graph) isLinear() bool { return g.xx.Sign() == 0 && g.xy.Sign() == 0 && g.yy.Sign() == 0 }

// isCircle reports whether the function is plus or minus the square of the distance
// from a point, less a constant.
func (g graph) isCircle() bool {
	two := big.NewRat(2, 1)
	return g.xx.Cmp(g.yy) == 0 && g.xy.Sign() == 0 && new(big.Rat).Abs(g.xx).Cmp(two) == 0
}

// P10.4: the residual of a locus is a linear function or a circle, and a constraint
// that determines its point has exactly one position for it.
func TestCurves(t *testing.T) {
	lines, circles, positions := map[int]int{}, map[int]int{}, map[int]int{}
	for i, c := range sample.Constraints(4) {
		for _, p := range sketch.Uses(c) {
			// All other points are placed, and the distance is another locus of p.
			var list []api.Constraint
			for k := range 4 {
				if k != p {
					list = append(list, tie(api.CFix, k))
				}
			}
			steps := plan(t, sample.Sketch(4, append(list, c, tie(api.CDistance, p, (p+1)%4))...)).Steps
			for seed := range 3 {
				list := graphs(t, c, sample.Places(4, 1+2*seed, uint64(i*3+seed)), p)
				switch {
				case slices.Contains(steps, api.Step{Point: p, First: 3, Second: 4}):
					if len(list) != 1 || !list[0].isLinear() && !list[0].isCircle() {
						t.Errorf("%+v is taken for a locus of %d", c, p)
					}
					if list[0].isLinear() {
						lines[c.Kind]++
					} else {
						circles[c.Kind]++
					}
				case slices.Contains(steps, api.Step{Point: p, First: 3, Second: -1}):
					positions[c.Kind]++
					if len(list) != 2 || !list[0].isLinear() || !list[1].isLinear() || new(big.Rat).Mul(list[0].x, list[1].y).Cmp(new(big.Rat).Mul(list[0].y, list[1].x)) == 0 {
						t.Errorf("%+v is taken to determine %d", c, p)
					}
				case c.Kind != api.CPerpendicular:
					t.Errorf("%+v does nothing for %d", c, p)
				}
			}
		}
	}
	got := fmt.Sprint(lines, circles, positions)
	if want := "map[3:72 4:72 5:216 6:864 8:72] map[2:72 8:144] map[1:12 7:216]"; got != want {
		t.Errorf("the lines, circles and positions by kind are %s instead of %s", got, want)
	}
}

// P10.5: a further constraint, at any place, leaves all points placed.
func TestFurther(t *testing.T) {
	more := 0
	for i, s := range sketches(1500, 7) {
		before := plan(t, s).Unplaced
		for k := 0; k < 16 && len(s.Constraints) < api.MaxConstraints; k++ {
			c := sample.Constraint(s.Points, uint64(i*16+k))
			wider := sample.Sketch(s.Points, slices.Insert(slices.Clone(s.Constraints), (i+k)%(len(s.Constraints)+1), c)...)
			after := plan(t, wider).Unplaced
			for _, p := range after {
				if !slices.Contains(before, p) {
					t.Errorf("%+v leaves %v, and with %+v %v", s, before, c, after)
				}
			}
			if len(after) < len(before) {
				more++
			}
		}
	}
	if more < 500 {
		t.Errorf("only %d constraints place further points", more)
	}
}

// P10.6: components are a partition, and a point is placed exactly if it is by the
// constraints of its component.
func TestComponents(t *testing.T) {
	several := 0
	for _, s := range sketches(3000, 8) {
		groups := cluster.Components(s)
		all := slices.Concat(groups...)
		slices.Sort(all)
		if len(all) != s.Points || len(slices.Compact(all)) != s.Points || all[0] != 0 || all[s.Points-1] != s.Points-1 {
			t.Errorf("Components(%+v) = %v is no partition", s, groups)
		}
		unplaced := plan(t, s).Unplaced
		for _, group := range groups {
			own := sample.Sketch(s.Points, slices.DeleteFunc(slices.Clone(s.Constraints), func(c api.Constraint) bool { return !slices.Contains(group, c.P) })...)
			ownUnplaced := plan(t, own).Unplaced
			for _, p := range group {
				if slices.Contains(unplaced, p) != slices.Contains(ownUnplaced, p) {
					t.Errorf("%+v: point %d is placed only with, or only without, the other components", s, p)
				}
			}
			for _, c := range own.Constraints {
				for _, p := range sketch.Uses(c) {
					if !slices.Contains(group, p) {
						t.Errorf("%+v links %d with the group %v", c, p, group)
					}
				}
			}
		}
		if len(groups) > 1 && len(unplaced) < s.Points {
			several++
		}
	}
	if several < 100 {
		t.Errorf("only %d sketches with placed points have several components", several)
	}
}

// P10.7: Freedom is 0 if all points are placed; a point that no constraint uses is
// left over, and adds 2 to Freedom if that was greater than 0, and at most 2
// otherwise.
func TestFreedom(t *testing.T) {
	added := map[int]int{}
	for _, s := range sketches(3000, 9) {
		c, before := plan(t, s), freedom(t, s)
		if len(c.Unplaced) == 0 && before != 0 {
			t.Errorf("Freedom(%+v) = %d", s, before)
		}
		if s.Points == api.MaxPoints {
			continue
		}
		wider := sample.Sketch(s.Points+1, s.Constraints...)
		if got, want := plan(t, wider), append(slices.Clone(c.Unplaced), s.Points); !slices.Equal(got.Unplaced, want) || !slices.Equal(got.Steps, c.Steps) {
			t.Errorf("Plan(%+v) = %+v with a further point", s, got)
		}
		more := freedom(t, wider) - before
		added[more]++
		if more < 0 || more > 2 || before > 0 && more != 2 {
			t.Errorf("%+v: a further point adds %d to the freedom %d", s, more, before)
		}
	}
	for n := range 3 {
		if added[n] < 20 {
			t.Errorf("a further point adds %d to only %d sketches", n, added[n])
		}
	}
}

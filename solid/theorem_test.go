package solid_test

import (
	"fmt"
	"math/big"
	"slices"
	"strconv"
	"testing"

	"workpiece/api"
	"workpiece/arrange"
	"workpiece/rational"
	"workpiece/region"
	"workpiece/sample"
	"workpiece/solid"
)

// value returns the value of the valid fraction r.
func value(r api.Ratio) *big.Rat {
	v, ok := new(big.Rat).SetString(r.Num + "/" + r.Den)
	if !ok {
		panic("not a fraction: " + r.Num + "/" + r.Den)
	}
	return v
}

func plus(a, b *big.Rat) *big.Rat  { return new(big.Rat).Add(a, b) }
func minus(a, b *big.Rat) *big.Rat { return new(big.Rat).Sub(a, b) }
func times(a, b *big.Rat) *big.Rat { return new(big.Rat).Mul(a, b) }

// sideOf returns the Side of a point that a valid curve has by its definition.
func sideOf(c api.Curve, x, y api.Ratio) int {
	a, b, bound := value(c.A), value(c.B), value(c.C)
	if c.Kind == api.KLine {
		return bound.Cmp(plus(times(a, value(x)), times(b, value(y))))
	}
	dx, dy := minus(value(x), a), minus(value(y), b)
	return bound.Cmp(plus(times(dx, dx), times(dy, dy)))
}

// covers reports whether the region r contains a point, by its definition.
func covers(r api.Region, x, y api.Ratio) bool {
	values := []bool{false}
	for _, n := range r.Nodes {
		left, right := false, false
		if n.Op != api.RLeaf {
			left, right = values[n.Left+1], values[n.Right+1]
		}
		values = append(values, map[int]func() bool{
			api.RLeaf:      func() bool { return sideOf(r.Curves[n.Curve], x, y) >= 0 },
			api.RUnion:     func() bool { return left || right },
			api.RIntersect: func() bool { return left && right },
			api.RMinus:     func() bool { return left && !right },
		}[n.Op]())
	}
	return values[len(values)-1]
}

// fills reports whether the valid solid s contains a point, by its definition.
func fills(s api.Solid, p [3]api.Ratio) bool {
	inside := false
	for _, prism := range s.Prisms {
		z := value(p[2])
		if z.Cmp(value(prism.Lo)) >= 0 && z.Cmp(value(prism.Hi)) <= 0 && covers(prism.Region, p[0], p[1]) {
			inside = !prism.Cut
		}
	}
	return inside
}

// isAtLevel reports whether p is at a level of one of the solids.
func isAtLevel(p [3]api.Ratio, solids ...api.Solid) bool {
	for _, s := range solids {
		for _, prism := range s.Prisms {
			if prism.Lo == p[2] || prism.Hi == p[2] {
				return true
			}
		}
	}
	return false
}

// curvesOf returns the curves of the solids, each once.
func curvesOf(solids ...api.Solid) []api.Curve {
	var out []api.Curve
	for _, s := range solids {
		for _, p := range s.Prisms {
			for _, c := range p.Region.Curves {
				if !slices.Contains(out, c) {
					out = append(out, c)
				}
			}
		}
	}
	return out
}

// isOnCurve reports whether p is above or below a curve of one of the solids.
func isOnCurve(p [3]api.Ratio, solids ...api.Solid) bool {
	return slices.ContainsFunc(curvesOf(solids...), func(c api.Curve) bool { return sideOf(c, p[0], p[1]) == 0 })
}

// contains returns what Contains returns. It panics if there is an error.
func contains(s api.Solid, p [3]api.Ratio) bool {
	return sample.Needed(solid.Contains(s, p[0], p[1], p[2]))
}

// P15.2: a solid contains a point exactly if its section does, at levels and on curves,
// too.
func TestSections(t *testing.T) {
	t.Parallel()
	count := map[string]int{}
	formulas := sample.Solids(34, 3, sample.Regions(12, few, 71), heights, 71)
	for i, s := range slices.Concat(shaped(102, 16, 72), shaped(60, 5, 73), formulas) {
		for _, p := range sample.PointsNear(40, uint64(i)) {
			r, err := solid.Section(s, p[2])
			if err != api.OK {
				continue
			}
			want := fills(s, p)
			inSection, errSection := region.Contains(r, p[0], p[1])
			if errSection != api.OK || inSection != want || contains(s, p) != want {
				t.Errorf("%v is in %s: %t, in its section: %t, %d", p, text(s), contains(s, p), inSection, errSection)
			}
			count[fmt.Sprint(want, isAtLevel(p, s), isOnCurve(p, s))]++
		}
	}
	for _, kind := range []string{"true false false", "true true false", "true false true", "true true true", "false false false", "false true true"} {
		if count[kind] < 100 {
			t.Error(kind, count)
		}
	}
}

// operate returns the value of an operation.
func operate(op int, a, b bool) bool {
	switch op {
	case api.RUnion:
		return a || b
	case api.RIntersect:
		return a && b
	}
	return a && !b
}

// P15.3: unions, intersections and differences contain what the operation says, on
// curves, too, but perhaps not at levels.
func TestBooleans(t *testing.T) {
	t.Parallel()
	count := map[string]int{}
	list := slices.Concat(shaped(25, 4, 74), []api.Solid{drilled()}, sample.Solids(6, 2, sample.Regions(8, few, 75), heights, 75))
	for i, a := range list {
		for k, b := range list {
			for op := api.RUnion; op <= api.RMinus; op++ {
				r, err := solid.Combine(op, a, b)
				if err != api.OK {
					continue
				}
				for _, p := range sample.PointsNear(16, uint64(100*i+k)) {
					if isAtLevel(p, a, b) {
						continue
					}
					got, want := contains(r, p), operate(op, fills(a, p), fills(b, p))
					if got != want || fills(r, p) != want {
						t.Errorf("Combine(%d; %s; %s) contains %v: %t", op, text(a), text(b), p, got)
					}
					count[fmt.Sprint(op, want, isOnCurve(p, a, b))]++
				}
			}
		}
	}
	if len(count) != 12 {
		t.Error(count)
	}
	for kind, n := range count {
		if n < 100 {
			t.Error(kind, count)
		}
	}
}

// areEqual reports whether a and b contain the same ones of the points that are in the
// middles of slabs, and are the sample points of all curves.
func areEqual(a, b api.Solid) bool {
	levels := wantLevels(a, b)
	for i := 1; i < len(levels); i++ {
		z := middle(levels[i-1], levels[i])
		for _, cell := range sample.Needed(arrange.Cells(curvesOf(a, b))) {
			p := [3]api.Ratio{cell.X, cell.Y, z}
			if fills(a, p) != fills(b, p) {
				return false
			}
		}
	}
	return true
}

// divided returns s with prisms that end where others do, so that it contains the same
// points: each one is divided at a height that is not at its ends, or left as it is.
func divided(s api.Solid, seed uint64) api.Solid {
	var out api.Solid
	for i, p := range s.Prisms {
		at := heights[(int(seed)+i)%len(heights)]
		if rational.Compare(p.Lo, at) >= 0 || rational.Compare(at, p.Hi) >= 0 {
			out.Prisms = append(out.Prisms, p)
			continue
		}
		below, above := p, p
		below.Hi, above.Lo = at, at
		out.Prisms = append(out.Prisms, below, above)
	}
	return out
}

// isDifference reports whether p shows that a and b are not equal: it is at no level, on
// no curve of the sections, and only one of them contains it. (It can be on a curve that
// only matters at other heights.)
func isDifference(a, b api.Solid, p [3]api.Ratio) bool {
	for _, s := range []api.Solid{a, b} {
		for _, c := range sample.Needed(solid.Section(s, p[2])).Curves {
			if sideOf(c, p[0], p[1]) == 0 {
				return false
			}
		}
	}
	return !isAtLevel(p, a, b) && fills(a, p) != fills(b, p)
}

// P15.4: solids that are equal contain the same points, but perhaps at levels and on
// curves, and the point that is returned for others proves that they are not.
func TestEquality(t *testing.T) {
	t.Parallel()
	count := map[string]int{}
	check := func(a, b api.Solid, seed uint64) {
		equal, p, err := solid.Equal(a, b)
		if len(curvesOf(a, b)) > 20 || err != api.OK {
			count["refused"]++
			return
		}
		if want := areEqual(a, b); equal != want {
			t.Errorf("Equal(%s; %s) = %t", text(a), text(b), equal)
		}
		if !equal && !isDifference(a, b, p) {
			t.Errorf("Equal(%s; %s) = false, %v", text(a), text(b), p)
		}
		for _, p := range sample.PointsNear(20, seed) {
			if equal && !isAtLevel(p, a, b) && !isOnCurve(p, a, b) {
				count["points "+strconv.FormatBool(fills(a, p))]++
				if fills(a, p) != fills(b, p) {
					t.Errorf("Equal(%s; %s) = true, but not at %v", text(a), text(b), p)
				}
			}
		}
		count[strconv.FormatBool(equal)]++
	}
	list := append(shaped(24, 3, 76), drilled())
	for i, a := range list {
		check(a, divided(a, uint64(i)), uint64(i))
		check(divided(a, uint64(i)), a, uint64(i))
		for k, b := range list {
			if (i+k)%5 == 0 {
				check(a, b, uint64(i*k))
			}
			for op := api.RUnion; op <= api.RMinus; op++ {
				if r, err := solid.Combine(op, a, b); err == api.OK && (i+k)%4 == op-2 {
					check(r, a, uint64(i*k))
				}
			}
		}
	}
	if count["true"] < 100 || count["false"] < 100 || count["points true"] < 100 || count["points false"] < 100 {
		t.Error(count)
	}
}

// shifted returns p, moved by d.
func shifted(p, d [3]api.Ratio) [3]api.Ratio {
	for axis := range p {
		p[axis] = sample.Needed(rational.Add(p[axis], d[axis]))
	}
	return p
}

// P15.5: a moved solid contains exactly the moved points, and moving it back gives the
// solid again.
func TestMoved(t *testing.T) {
	t.Parallel()
	count := map[string]int{}
	formulas := sample.Solids(34, 16, sample.Regions(25, few, 77), heights, 77)
	far := slices.Concat(few, sample.Fractions(20, 20, 78))
	for i, s := range append(shaped(102, 16, 79), formulas...) {
		d := sample.Points(1, far, far, uint64(i))[0]
		var back [3]api.Ratio
		for axis := range back {
			back[axis] = sample.Needed(rational.Sub(number("0"), d[axis]))
		}
		moved, err := solid.Move(s, d[0], d[1], d[2])
		again, errBack := solid.Move(moved, back[0], back[1], back[2])
		if err != api.OK || errBack != api.OK || !solid.Same(again, s) {
			t.Fatalf("Move(%s; %v) and back = %s, %d, %d", text(s), d, text(again), err, errBack)
		}
		for _, p := range sample.PointsNear(15, uint64(i)) {
			want := fills(s, p)
			if contains(moved, shifted(p, d)) != want {
				t.Errorf("Move(%s; %v) contains %v, moved: not %t", text(s), d, p, want)
			}
			count[fmt.Sprint(want, isAtLevel(p, s) || isOnCurve(p, s))]++
		}
	}
	if len(count) != 4 || slices.Min([]int{count["true true"], count["true false"], count["false true"], count["false false"]}) < 100 {
		t.Error(count)
	}
}

// P15.5: union and intersection are commutative and associative, intersection is
// distributive over union, and other laws of sets hold.
func TestLaws(t *testing.T) {
	t.Parallel()
	or := func(a, b api.Solid) api.Solid { return combined(api.RUnion, a, b) }
	and := func(a, b api.Solid) api.Solid { return combined(api.RIntersect, a, b) }
	less := func(a, b api.Solid) api.Solid { return combined(api.RMinus, a, b) }
	laws := []func(a, b, c api.Solid) (api.Solid, api.Solid){
		func(a, b, c api.Solid) (api.Solid, api.Solid) { return or(a, b), or(b, a) },
		func(a, b, c api.Solid) (api.Solid, api.Solid) { return and(a, b), and(b, a) },
		func(a, b, c api.Solid) (api.Solid, api.Solid) { return or(or(a, b), c), or(a, or(b, c)) },
		func(a, b, c api.Solid) (api.Solid, api.Solid) { return and(and(a, b), c), and(a, and(b, c)) },
		func(a, b, c api.Solid) (api.Solid, api.Solid) { return and(a, or(b, c)), or(and(a, b), and(a, c)) },
		func(a, b, c api.Solid) (api.Solid, api.Solid) { return or(a, a), a },
		func(a, b, c api.Solid) (api.Solid, api.Solid) { return and(a, a), a },
		func(a, b, c api.Solid) (api.Solid, api.Solid) { return less(a, a), api.Solid{} },
		func(a, b, c api.Solid) (api.Solid, api.Solid) { return or(less(a, b), and(a, b)), a },
		func(a, b, c api.Solid) (api.Solid, api.Solid) { return less(a, less(a, b)), and(b, a) },
	}
	simple := slices.Concat(sample.Shapes()[:4], sample.Shapes()[7:10])
	list := append(sample.Solids(18, 2, simple, heights, 80), drilled())
	count := map[string]int{}
	for i := range 120 {
		a, b, c := list[i%len(list)], list[(i*5+i/7)%len(list)], list[(i*11+i/3)%len(list)]
		for k, law := range laws {
			verdict := sample.Calculated(api.ErrSolid, func() string {
				left, right := law(a, b, c)
				equal, _, err := solid.Equal(left, right)
				return strconv.FormatBool(sample.Needed(equal, err))
			})
			if verdict == "false" {
				t.Errorf("law %d for %s, %s and %s", k, text(a), text(b), text(c))
			}
			count[fmt.Sprint(k, " ", verdict)]++
		}
	}
	for k := range laws {
		if count[fmt.Sprint(k, " true")] < 60 {
			t.Error(count)
		}
	}
}

// P15.5: the difference of two solids is empty exactly if their intersection is equal to
// the first one.
func TestDifference(t *testing.T) {
	t.Parallel()
	count := map[bool]int{}
	simple := slices.Concat(sample.Shapes()[:5], sample.Shapes()[7:9])
	list := append(sample.Solids(26, 2, simple, heights[:5], 81), drilled())
	for _, a := range list {
		for _, b := range list {
			less, errLess := solid.Combine(api.RMinus, a, b)
			both, errBoth := solid.Combine(api.RIntersect, a, b)
			empty, _, errEmpty := solid.Empty(less)
			equal, _, errEqual := solid.Equal(both, a)
			if errLess != api.OK || errBoth != api.OK || errEmpty != api.OK || errEqual != api.OK || empty != equal {
				t.Errorf("the difference of %s and %s is empty: %t, %t, %d, %d, %d, %d", text(a), text(b), empty, equal, errLess, errBoth, errEmpty, errEqual)
			}
			count[empty]++
		}
	}
	if count[true] < 100 || count[false] < 100 {
		t.Error(count)
	}
}

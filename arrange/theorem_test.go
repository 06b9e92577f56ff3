package arrange_test

import (
	"fmt"
	"math/big"
	"slices"
	"strconv"
	"testing"

	"workpiece/api"
	"workpiece/arrange"
	"workpiece/rational"
	"workpiece/region"
	"workpiece/sample"
	"workpiece/tower"
)

// value returns the value of the valid fraction r.
func value(r api.Ratio) *big.Rat {
	v, ok := new(big.Rat).SetString(r.Num + "/" + r.Den)
	if !ok {
		panic("not a fraction: " + r.Num + "/" + r.Den)
	}
	return v
}

func plus(a, b *big.Rat) *big.Rat  { return new(big.Rat).Add(a, b) }
func minus(a, b *big.Rat) *big.Rat { return new(big.Rat).Sub(a, b) }
func times(a, b *big.Rat) *big.Rat { return new(big.Rat).Mul(a, b) }
func square(a *big.Rat) *big.Rat   { return times(a, a) }

// sideOf returns on which side of c a point is, by the definition of a curve.
func sideOf(c api.Curve, x, y api.Ratio) int {
	a, b := value(c.A), value(c.B)
	if c.Kind == api.KCircle {
		return value(c.C).Cmp(plus(square(minus(value(x), a)), square(minus(value(y), b))))
	}
	return value(c.C).Cmp(plus(times(a, value(x)), times(b, value(y))))
}

// sidesOf returns on which sides of the curves a point is, and whether it is on none.
func sidesOf(curves []api.Curve, x, y api.Ratio) ([]int, bool) {
	var out []int
	for _, c := range curves {
		out = append(out, sideOf(c, x, y))
	}
	return out, !slices.Contains(out, 0)
}

// between returns a fraction between a and b.
func between(a, b api.Ratio) api.Ratio { return multiplied(number("1/2"), added(a, b)) }

// around returns points in all cells and between them, and others from -4 to 4.
func around(cells []api.Cell, count int, seed uint64) [][2]api.Ratio {
	out := points(count, slices.Concat(few, sample.Numbers("1/3 -7/5 141/100 -173/100 999/1000 -4 7/2 1/1000")), seed)
	for i, c := range cells {
		other := cells[(i*7+3)%len(cells)]
		out = append(out, [2]api.Ratio{c.X, other.Y}, [2]api.Ratio{between(c.X, other.X), between(c.Y, other.Y)}, [2]api.Ratio{added(c.X, number("1/1000000")), added(c.Y, number("-1/1000000"))})
	}
	return out
}

// P14.2: every point that is on no curve is located in a cell whose sample point is on the
// same side of every curve.
func TestComplete(t *testing.T) {
	t.Parallel()
	located := 0
	for n, curves := range lists(60, 6, 71) {
		cells := cellsOf(curves)
		for _, p := range around(cells[:min(len(cells), 40)], 40, uint64(n)) {
			want, isOff := sidesOf(curves, p[0], p[1])
			if !isOff {
				continue
			}
			i, err := arrange.Locate(curves, cells, p[0], p[1])
			if err != api.OK {
				t.Errorf("Locate(%s; %v) = %d", curvesText(curves), p, err)
				continue
			}
			if got, _ := sidesOf(curves, cells[i].X, cells[i].Y); !slices.Equal(got, want) {
				t.Errorf("Locate(%s; %v) = %d: the sides are %v instead of %v", curvesText(curves), p, i, got, want)
			}
			located++
		}
	}
	if located < 6000 {
		t.Errorf("only %d points", located)
	}
}

// P14.3: no sample point is on a curve; strips and cells are in ascending order, and a
// curve is between successive cells of a strip.
func TestSamples(t *testing.T) {
	t.Parallel()
	count := 0
	for _, curves := range append(lists(120, 6, 72), sample.Curves(14, few, 73), sample.Curves(20, few[:9], 74)) {
		cells := cellsOf(curves)
		events, err := arrange.Events(curves)
		last := cells[len(cells)-1]
		if err != api.OK || cells[0].Strip != 0 || cells[0].Index != 0 || last.Strip != len(events) {
			t.Errorf("%s: %d events, %s", curvesText(curves), len(events), cellsText(cells))
		}
		for i, c := range cells {
			sides, isOff := sidesOf(curves, c.X, c.Y)
			if !isOff {
				t.Errorf("%s: %v is on a curve", curvesText(curves), c)
			}
			count++
			if i == 0 {
				continue
			}
			before := cells[i-1]
			if before.Strip != c.Strip {
				if c.Strip != before.Strip+1 || c.Index != 0 || rational.Compare(before.X, c.X) != -1 {
					t.Errorf("%s: %v follows %v", curvesText(curves), c, before)
				}
				checkAround(t, curves, events[before.Strip], before.X, c.X)
				continue
			}
			others, _ := sidesOf(curves, before.X, before.Y)
			border, err := arrange.Border(curves, cells, i-1)
			isBorder := err == api.OK && sides[border] != others[border] && slices.Equal(sides[:border], others[:border])
			if before.X != c.X || c.Index != before.Index+1 || rational.Compare(before.Y, c.Y) != -1 || !isBorder {
				t.Errorf("%s: %v follows %v, with the border %d, %d", curvesText(curves), c, before, border, err)
			}
		}
	}
	if count < 4000 {
		t.Errorf("only %d cells", count)
	}
}

// checkAround checks that the position of an event is between two abscissas.
func checkAround(t *testing.T, curves []api.Curve, e api.Event, left, right api.Ratio) {
	t.Helper()
	u, element, err := arrange.Position(curves, e)
	if err != api.OK {
		t.Errorf("Position(%s; %v) = %d", curvesText(curves), e, err)
		return
	}
	x := place{u, element}.real()
	if order(realOf(left), x) != -1 || order(x, realOf(right)) != -1 {
		t.Errorf("%s: %v is not between %v and %v", curvesText(curves), e, left, right)
	}
}

// common returns how many abscissas the points have that two different curves have in
// common, if these are finitely many and none of the curves is a vertical line, by
// distances.
func common(one, other api.Curve) int {
	a, b, c := value(one.A), value(one.B), value(one.C)
	p, q, r := value(other.A), value(other.B), value(other.C)
	if one.Kind == api.KCircle && other.Kind == api.KLine {
		return common(other, one)
	}
	if one.Kind == api.KLine && other.Kind == api.KLine {
		if times(a, q).Cmp(times(b, p)) == 0 {
			return 0
		}
		return 1
	}
	if one.Kind == api.KLine {
		off := minus(plus(times(a, p), times(b, q)), c)
		return 1 + times(r, plus(square(a), square(b))).Cmp(square(off))
	}
	if a.Cmp(p) == 0 && b.Cmp(q) == 0 {
		return 0
	}
	// For the distance d, and the radii v and w, d is between v - w and v + w exactly if
	// the square of d * d - v * v - w * w is less than that of 2 * v * w.
	off := minus(minus(plus(square(minus(a, p)), square(minus(b, q))), c), r)
	count := 1 + times(big.NewRat(4, 1), times(c, r)).Cmp(square(off))
	if b.Cmp(q) == 0 {
		return min(count, 1)
	}
	return count
}

// P14.4: two curves have as many events as there are abscissas of points that both have in
// common, and their positions are different.
func TestEventCount(t *testing.T) {
	t.Parallel()
	count := map[string]int{}
	for i := range 1600 {
		seed := uint64(i) << 22
		curves := []api.Curve{curveOf(1+i%2, near, seed), curveOf(1+i/2%2, near, seed+1)}
		if i%5 == 0 {
			curves = sample.Reordered(touching(seed), sample.Shuffled(2, seed))
		}
		var found []*big.Float
		for which := 0; ; which++ {
			u, element, err := arrange.Position(curves, api.Event{Two: 1, Which: which})
			if err != api.OK {
				break
			}
			found = append(found, place{u, element}.real())
		}
		isVertical := func(c api.Curve) bool { return c.Kind == api.KLine && c.B.Num == "0" }
		want := 0
		if !slices.ContainsFunc(curves, isVertical) {
			want = common(curves[0], curves[1])
		}
		if len(found) != want || want == 2 && order(found[0], found[1]) != -1 {
			t.Errorf("%s: %d events instead of %d", curvesText(curves), len(found), want)
		}
		count[fmt.Sprint(curves[0].Kind, curves[1].Kind, " ", want)]++
	}
	for _, kind := range []string{"1 1 0", "1 1 1", "1 2 0", "1 2 1", "1 2 2", "2 1 0", "2 1 1", "2 1 2", "2 2 0", "2 2 1", "2 2 2"} {
		if count[kind] < 10 {
			t.Error(kind, count)
		}
	}
}

// isOnBoth reports whether a point with the abscissa x, an element of the tower, is on
// both curves: whether there is an ordinate y with which both equations hold.
func isOnBoth(u api.Tower, x []api.Ratio, one, other api.Curve) bool {
	s := sample.Scope{Tower: u, Values: map[string][]api.Ratio{"x": x}}
	named := func(c api.Curve, suffix string) {
		names := map[int]string{api.KLine: "abc", api.KCircle: "pqR"}[c.Kind]
		for i, r := range []api.Ratio{c.A, c.B, c.C} {
			s.Values[names[i:i+1]+suffix] = s.Constant(rational.Print(r))
		}
	}
	isZero := func(formula string) bool {
		return sample.Needed(tower.Sign(u, s.Value(formula))) == 0
	}
	switch {
	case one.Kind == api.KCircle && other.Kind == api.KLine:
		return isOnBoth(u, x, other, one)
	case one.Kind == api.KLine && other.Kind == api.KLine:
		named(one, "")
		named(other, "'")
		s.Let("y", "(c - a * x) / b")
		return isZero("a' * x + b' * y - c'")
	case one.Kind == api.KLine:
		named(one, "")
		named(other, "")
		s.Let("y", "(c - a * x) / b")
		return isZero("(x - p) * (x - p) + (y - q) * (y - q) - R")
	}
	named(one, "")
	named(other, "'")
	// Both give y - q a square.
	s.Let("S S'", "R - (x - p) * (x - p)", "R' - (x - p') * (x - p')")
	if one.B == other.B {
		return isZero("S - S'") && s.Sign("S") >= 0
	}
	s.Let("y", "(S - S' + q' * q' - q * q) / (2 * (q' - q))")
	return isZero("(y - q) * (y - q) - S") && isZero("(y - q') * (y - q') - S'")
}

// isEnd reports whether x, an element of the tower, is the abscissa of a vertical line, or
// an end of a circle.
func isEnd(u api.Tower, x []api.Ratio, c api.Curve) bool {
	s := sample.Scope{Tower: u, Values: map[string][]api.Ratio{"x": x}}
	for name, r := range map[string]api.Ratio{"a": c.A, "b": c.B, "c": c.C} {
		s.Values[name] = s.Constant(rational.Print(r))
	}
	formula := "a * x - c"
	if c.Kind == api.KCircle {
		formula = "(x - a) * (x - a) - c"
	}
	return sample.Needed(tower.Sign(u, s.Value(formula))) == 0
}

// P14.4: the position of an event is exactly the abscissa of a point on both curves.
func TestEventsExact(t *testing.T) {
	t.Parallel()
	count := map[string]int{}
	short := slices.Concat(few, sample.Fractions(30, 6, 75))
	all := lists(300, 4, 76)
	for i := range 300 {
		seed := uint64(i) << 30
		all = append(all, sample.Curves(2+i%3, short, seed), []api.Curve{curveOf(1+i%2, near, seed), curveOf(2-i/2%2, near, seed+1)})
	}
	for _, curves := range all {
		for one := range curves {
			for two := one; two < len(curves); two++ {
				for which := range 2 {
					e := api.Event{One: one, Two: two, Which: which}
					u, x, err := arrange.Position(curves, e)
					if err != api.OK {
						continue
					}
					is := false
					if one == two {
						is = isEnd(u, x, curves[one])
					} else {
						is = isOnBoth(u, x, curves[one], curves[two])
					}
					if !is {
						t.Errorf("%s: the position %v of %v is not on the curves", curvesText(curves), x, e)
					}
					count[fmt.Sprint(curves[one].Kind, curves[two].Kind, len(x), one == two)]++
				}
			}
		}
	}
	for _, kind := range []string{"1 1 1 true", "2 2 2 true", "1 1 1 false", "1 2 1 false", "1 2 2 false", "2 1 1 false", "2 1 2 false", "2 2 1 false", "2 2 2 false"} {
		if count[kind] < 15 {
			t.Error(kind, count)
		}
	}
}

// checkProof checks what a decision about a and b returns: that holds is true for points
// around, or that it is not for the point that is returned.
func checkProof(t *testing.T, what string, a, b api.Region, holds func(inA, inB bool) bool, is bool, x, y api.Ratio, err api.Errno) {
	t.Helper()
	curves := slices.Concat(a.Curves, b.Curves)
	if err != api.OK {
		t.Errorf("%s(%s; %s) = %d", what, regionText(a), regionText(b), err)
		return
	}
	in := func(r api.Region, p [2]api.Ratio) bool { return sample.Needed(region.Contains(r, p[0], p[1])) }
	if !is {
		p := [2]api.Ratio{x, y}
		if _, isOff := sidesOf(curves, x, y); !isOff || holds(in(a, p), in(b, p)) {
			t.Errorf("%s(%s; %s): %v proves nothing", what, regionText(a), regionText(b), p)
		}
		return
	}
	for _, p := range around(nil, 60, uint64(len(curves))) {
		if _, isOff := sidesOf(curves, p[0], p[1]); isOff && !holds(in(a, p), in(b, p)) {
			t.Errorf("%s(%s; %s) is not so at %v", what, regionText(a), regionText(b), p)
		}
	}
}

// P14.5: what Equal, Within and Empty say holds for all points that are on no curve, or is
// refuted by the point that they return.
func TestProofs(t *testing.T) {
	t.Parallel()
	count := map[string]int{}
	list := regions(70, 77)
	for i, a := range list {
		for k := i % 9; k < len(list); k += 9 {
			b := list[k]
			is, x, y, err := arrange.Equal(a, b)
			checkProof(t, "Equal", a, b, func(inA, inB bool) bool { return inA == inB }, is, x, y, err)
			count["Equal "+strconv.FormatBool(is)]++
			is, x, y, err = arrange.Within(a, b)
			checkProof(t, "Within", a, b, func(inA, inB bool) bool { return !inA || inB }, is, x, y, err)
			count["Within "+strconv.FormatBool(is)]++
		}
		is, x, y, err := arrange.Empty(a)
		checkProof(t, "Empty", a, api.Region{}, func(inA, inB bool) bool { return !inA }, is, x, y, err)
		count["Empty "+strconv.FormatBool(is)]++
	}
	if len(count) != 6 || count["Equal true"] < 25 || count["Within true"] < 60 || count["Empty true"] < 10 {
		t.Error(count)
	}
}

// P14.5: regions that differ only in one small cell.
func TestSmallDifferences(t *testing.T) {
	t.Parallel()
	square := rectangle("-1 -1 1 1")
	for _, k := range []int{1, 3, 6, 10, 20} {
		size := "1/" + sample.Power(k)
		for _, small := range []api.Region{disc("1/3 1/7 " + size), rectangle("0 0 " + size + " " + size), triangle("0 0 " + size + " 0 0 " + size)} {
			less := combined(api.RMinus, square, small)
			is, x, y, err := arrange.Equal(square, less)
			if in, errIn := region.Contains(small, x, y); is || err != api.OK || !in || errIn != api.OK {
				t.Errorf("%s: Equal = %t, %v, %v, %d", size, is, x, y, err)
			}
			if is, _, _, err := arrange.Within(less, square); !is || err != api.OK {
				t.Errorf("%s: Within = %t, %d", size, is, err)
			}
			if is, _, _, err := arrange.Equal(square, combined(api.RUnion, less, small)); !is || err != api.OK {
				t.Errorf("%s: Equal of the union = %t, %d", size, is, err)
			}
		}
	}
}

// P14.6: boolean identities hold for Equal and Within.
func TestIdentities(t *testing.T) {
	t.Parallel()
	or := func(a, b api.Region) api.Region { return combined(api.RUnion, a, b) }
	and := func(a, b api.Region) api.Region { return combined(api.RIntersect, a, b) }
	less := func(a, b api.Region) api.Region { return combined(api.RMinus, a, b) }
	equal := func(a, b api.Region) bool {
		is, _, _, err := arrange.Equal(a, b)
		return is && err == api.OK
	}
	within := func(a, b api.Region) bool {
		is, _, _, err := arrange.Within(a, b)
		return is && err == api.OK
	}
	empty := func(a api.Region) bool {
		is, _, _, err := arrange.Empty(a)
		return is && err == api.OK
	}
	count := map[bool]int{}
	list := regions(40, 78)
	for i, a := range list {
		for k := i % 7; k < len(list); k += 7 {
			b := list[k]
			if len(a.Curves)+len(b.Curves) > 8 {
				continue
			}
			for law, holds := range []bool{
				within(a, or(a, b)), within(b, or(a, b)), within(and(a, b), a), within(and(a, b), b), within(less(a, b), a), empty(and(less(a, b), b)), empty(less(a, or(a, b))),
				equal(or(a, b), or(b, a)), equal(and(a, b), and(b, a)), equal(or(less(a, b), and(a, b)), a), equal(less(a, less(a, b)), and(a, b)), equal(or(less(a, b), b), or(a, b)),
				equal(a, b) == (within(a, b) && within(b, a)), within(a, b) == empty(less(a, b)), within(a, b) == equal(and(a, b), a), within(a, b) == equal(or(a, b), b), equal(a, b) == equal(b, a),
			} {
				if !holds {
					t.Errorf("law %d does not hold for %s and %s", law, regionText(a), regionText(b))
				}
			}
			count[within(a, b)]++
		}
	}
	if count[true] < 20 || count[false] < 40 {
		t.Error(count)
	}
}

// P14.7: translated curves have the same events and as many cells in each strip, and the
// positions of the events are translated.
func TestTranslated(t *testing.T) {
	t.Parallel()
	shifts := points(40, slices.Concat(few, sample.Fractions(20, 5, 79)), 80)
	for n, curves := range lists(60, 5, 81) {
		shift := shifts[n%len(shifts)]
		var moved []api.Curve
		for _, c := range curves {
			r := sample.Needed(region.Move(api.Region{Curves: []api.Curve{c}, Nodes: []api.RegionNode{sample.Leaf(0)}}, shift[0], shift[1]))
			moved = append(moved, r.Curves[0])
		}
		events, err := arrange.Events(curves)
		movedEvents, errMoved := arrange.Events(moved)
		if err != api.OK || errMoved != api.OK || !slices.Equal(events, movedEvents) {
			t.Errorf("Events(%s) = %s, moved by %v: %s", curvesText(curves), eventsOutcome(events, err), shift, eventsOutcome(movedEvents, errMoved))
			continue
		}
		for _, e := range events {
			_, before, errBefore := arrange.Position(curves, e)
			u, after, errAfter := arrange.Position(moved, e)
			by := sample.Needed(tower.FromRatio(u, shift[0]))
			want := sample.Needed(tower.Add(u, before, by))
			if order, err := tower.Compare(u, after, want); errBefore != api.OK || errAfter != api.OK || err != api.OK || order != 0 {
				t.Errorf("%s, moved by %v: the position of %v is %v instead of %v", curvesText(curves), shift, e, after, want)
			}
		}
		if got, want := strips(cellsOf(moved)), strips(cellsOf(curves)); got != want {
			t.Errorf("%s, moved by %v: %s cells instead of %s", curvesText(curves), shift, got, want)
		}
	}
}

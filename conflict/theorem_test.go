package conflict_test

import (
	"math/big"
	"slices"
	"testing"

	"workpiece/api"
	"workpiece/conflict"
	"workpiece/rational"
	"workpiece/sample"
	"workpiece/sketch"
	"workpiece/solve"
)

// P12.2: in the places where some constraints of a sketch hold, not all constraints of a
// refuted subset do.
func TestRefutedPlaces(t *testing.T) {
	t.Parallel()
	refuted := 0
	for i, f := range sample.Figures(150, 21) {
		f = fuller(f, 5+i%2, uint64(i)<<16)
		for k := range 2 {
			f.Constraints = append(f.Constraints, sample.Constraint(f.Points, uint64(i)<<16+uint64(k)))
		}
		holds := func(i int) bool {
			list, err := sketch.Residual(f.Constraints[i], f.Places)
			return err == api.OK && !slices.ContainsFunc(list, func(r api.Ratio) bool { return r.Num != "0" })
		}
		for _, subset := range subsets(len(f.Constraints)) {
			if !conflict.Refutes(f.Sketch, subset) {
				continue
			}
			refuted++
			if !slices.ContainsFunc(subset, func(i int) bool { return !holds(i) }) {
				t.Errorf("%v of %+v is refuted, and holds at %s", subset, f.Sketch, text(f.Places))
			}
		}
	}
	if refuted < 400 {
		t.Errorf("only %d subsets are refuted", refuted)
	}
}

// P12.2: for a solution of some constraints of a sketch, not all constraints of a refuted
// subset hold, whatever its tower.
func TestRefutedSolutions(t *testing.T) {
	t.Parallel()
	refuted, levels := 0, map[int]int{}
	for i, s := range sample.Constructions(300, 22) {
		list, err := solve.Solve(s)
		if err != api.OK || len(s.Constraints) > 6 {
			continue
		}
		for k := range 2 {
			s.Constraints = append(s.Constraints, sample.Constraint(s.Points, uint64(i)<<16+uint64(k)))
		}
		for _, subset := range subsets(len(s.Constraints)) {
			if len(list) == 0 || !conflict.Refutes(s, subset) {
				continue
			}
			refuted++
			for _, x := range list {
				levels[len(x.Tower.Radicands)]++
				if solve.Check(sample.Sketch(s.Points, sample.Reordered(s.Constraints, subset)...), x) {
					t.Errorf("%v of %+v is refuted, and has the solution %v", subset, s, x)
				}
			}
		}
	}
	if refuted < 300 || levels[0] < 100 || levels[1] < 100 {
		t.Errorf("only %d subsets are refuted; the levels %v", refuted, levels)
	}
}

// P12.2: a sketch that has a solution has no refuted subset.
func TestSatisfied(t *testing.T) {
	t.Parallel()
	check := func(s api.Sketch) {
		if got, found := conflict.Contradiction(s); found {
			t.Errorf("%v of %+v is refuted", got, s)
		}
	}
	solved := 0
	for i, s := range sample.Constructions(300, 23) {
		if len(s.Constraints) < api.MaxConflict && i%2 == 0 {
			s.Constraints = append(s.Constraints, sample.Constraint(s.Points, uint64(i)))
		}
		if list, _ := solve.Solve(s); len(list) > 0 && len(s.Constraints) <= api.MaxConflict {
			solved++
			check(s)
		}
	}
	for i, f := range sample.Figures(150, 24) {
		check(fuller(f, 4+i%7, uint64(i)<<16).Sketch)
	}
	if solved < 70 {
		t.Errorf("only %d sketches are solved", solved)
	}
}

// P12.3: what Contradiction returns is refuted, and no smaller subset is; so no proper
// subset of it is.
func TestSmallest(t *testing.T) {
	t.Parallel()
	checked, smaller := 0, 0
	for _, s := range crowded(200, 25) {
		least, found := conflict.Contradiction(s)
		for _, subset := range subsets(len(s.Constraints)) {
			if slices.Equal(subset, least) {
				break
			}
			smaller++
			if conflict.Refutes(s, subset) {
				t.Errorf("Contradiction(%+v) = %v, %t; but %v is refuted", s, least, found, subset)
			}
		}
		if found {
			checked++
			if !conflict.Refutes(s, least) {
				t.Errorf("Contradiction(%+v) = %v is not refuted", s, least)
			}
			checkProper(t, s, least)
		}
	}
	if checked < 80 || smaller < 10000 {
		t.Errorf("only %d contradictions, and %d smaller subsets", checked, smaller)
	}
}

// checkProper checks that no proper subset of least is refuted.
func checkProper(t *testing.T, s api.Sketch, least []int) {
	t.Helper()
	for mask := range 1<<len(least) - 1 {
		proper := sample.Reordered(least, masked(len(least), mask))
		if conflict.Refutes(s, proper) {
			t.Errorf("Contradiction(%+v) = %v contains %v, which is refuted", s, least, proper)
		}
	}
}

// value returns the value of the valid fraction r.
func value(r api.Ratio) *big.Rat {
	v, ok := new(big.Rat).SetString(r.Num + "/" + r.Den)
	if !ok {
		panic("not a fraction: " + r.Num + "/" + r.Den)
	}
	return v
}

// rank returns the number of rows of p's matrix that are linearly independent.
func rank(p placed) int {
	m := tableOf(p.Sketch, p.points)
	var rows [][]*big.Rat
	for i := range m[0] {
		var row []*big.Rat
		for _, column := range m {
			row = append(row, value(column[i]))
		}
		rows = append(rows, row)
	}
	// The last row goes each time, and takes the last column in which it is not 0.
	for n := len(rows) - 1; n >= 0; n-- {
		last := rows[n]
		column := len(last) - 1
		for column >= 0 && last[column].Sign() == 0 {
			column--
		}
		if column < 0 {
			continue
		}
		for _, row := range rows[:n] {
			factor := new(big.Rat).Quo(row[column], last[column])
			for k := range row {
				row[k].Sub(row[k], new(big.Rat).Mul(factor, last[k]))
			}
		}
	}
	out := 0
	for _, row := range rows {
		if slices.ContainsFunc(row, func(v *big.Rat) bool { return v.Sign() != 0 }) {
			out++
		}
	}
	return out
}

// keeps reports whether the velocity is not 0, and keeps all constraints exactly.
func keeps(p placed, velocity [][2]api.Ratio) bool {
	m := tableOf(p.Sketch, p.points)
	isMoving := false
	for i := range m[0] {
		sum := new(big.Rat)
		for column, elements := range m {
			sum.Add(sum, new(big.Rat).Mul(value(elements[i]), value(velocity[column/2][column%2])))
		}
		if sum.Sign() != 0 {
			return false
		}
	}
	for _, v := range velocity {
		isMoving = isMoving || value(v[0]).Sign() != 0 || value(v[1]).Sign() != 0
	}
	return isMoving
}

// P12.4: Moves accepts what Motion returns, unless a sum is too large; if Motion returns
// none, there is none.
func TestMotionMoves(t *testing.T) {
	t.Parallel()
	list := slices.Concat(special(300, 26), general(300, 1, 27), general(100, 3, 28), bulky(150, 3000))
	accepted, none, large := 0, 0, 0
	for i, p := range list {
		velocity, found, err := conflict.Motion(p.Sketch, p.points)
		if err != api.OK {
			continue
		}
		if found != (rank(p) < 2*p.Points) {
			t.Errorf("Motion(%+v, %s) = %t, although the rank is %d", p.Sketch, text(p.points), found, rank(p))
		}
		if !found {
			none++
			for _, v := range velocities(p, uint64(i)) {
				if conflict.Moves(p.Sketch, p.points, v) {
					t.Errorf("Motion(%+v, %s) = false, although %s is accepted", p.Sketch, text(p.points), text(v))
				}
			}
			continue
		}
		if !keeps(p, velocity) {
			t.Errorf("Motion(%+v, %s) = %s, which does not keep the constraints", p.Sketch, text(p.points), text(velocity))
		}
		if conflict.Moves(p.Sketch, p.points, velocity) {
			accepted++
		} else if _, isTooLarge := wantMoves(p.Sketch, p.points, velocity); isTooLarge {
			large++
		} else {
			t.Errorf("Motion(%+v, %s) = %s, which Moves does not accept", p.Sketch, text(p.points), text(velocity))
		}
	}
	if accepted < 500 || none < 300 || large == 0 {
		t.Errorf("only %d velocities are accepted, and %d are too large; none for %d sketches", accepted, large, none)
	}
}

// P12.5: a translation keeps all constraints but those that fix a point.
func TestTranslation(t *testing.T) {
	for i, c := range sample.Constraints(4) {
		for k := range 4 {
			points := sample.Places(4, 1+k*3, uint64(i*4+k))
			velocity := slices.Repeat(sample.Places(1, 1+k*3, uint64(k)), 4)
			if k%2 == 1 {
				points = grid(4, k, uint64(i))
				velocity = slices.Repeat([][2]api.Ratio{{sample.Number("0"), velocity[0][1]}}, 4)
			}
			if got := conflict.Moves(sample.Sketch(4, c), points, velocity); got != (c.Kind != api.CFix) {
				t.Errorf("Moves(%+v, %s, %s) = %t", c, text(points), text(velocity), got)
			}
		}
	}
	for i, s := range sample.Sketches(300, 31) {
		s.Constraints = slices.DeleteFunc(s.Constraints, func(c api.Constraint) bool { return c.Kind == api.CFix })
		points, velocity := sample.Places(s.Points, 2, uint64(i)), slices.Repeat(sample.Places(1, 3, uint64(i)), s.Points)
		if !conflict.Moves(s, points, velocity) {
			t.Errorf("Moves(%+v, %s, %s) = false", s, text(points), text(velocity))
		}
	}
}

// rotation returns the velocity of points that rotate about a center.
func rotation(points [][2]api.Ratio, center [2]api.Ratio, speed api.Ratio) [][2]api.Ratio {
	var out [][2]api.Ratio
	for _, p := range points {
		dx := exact(rational.Sub(p[0], center[0]))
		dy := exact(rational.Sub(center[1], p[1]))
		out = append(out, [2]api.Ratio{exact(rational.Mul(speed, dy)), exact(rational.Mul(speed, dx))})
	}
	return out
}

// P12.5: a rotation keeps CDistance, CPerpendicular, CEqual and COnLine, and CMidpoint
// where it holds.
func TestRotation(t *testing.T) {
	kept, lost := map[int]int{}, map[int]int{}
	check := func(c api.Constraint, points [][2]api.Ratio, seed uint64) {
		more := sample.Places(2, 2, seed)
		velocity := rotation(points, more[0], more[1][0])
		got := conflict.Moves(sample.Sketch(len(points), c), points, velocity)
		_, holds := sample.Fitted(c, points)
		want := got
		switch c.Kind {
		case api.CDistance, api.CPerpendicular, api.CEqual, api.COnLine:
			want = true
		case api.CMidpoint:
			want = holds
		}
		if got != want {
			t.Errorf("Moves(%+v, %s, %s) = %t", c, text(points), text(velocity), got)
		}
		if got {
			kept[c.Kind]++
		} else {
			lost[c.Kind]++
		}
	}
	for i, c := range sample.Constraints(4) {
		check(c, grid(4, 3, uint64(i)), uint64(i))
		points := sample.Places(4, 2+i%3, uint64(i))
		check(c, points, uint64(i)+1)
		if c.Kind == api.CMidpoint {
			for axis := range 2 {
				sum := exact(rational.Add(points[c.Q][axis], points[c.R][axis]))
				points[c.P][axis] = exact(rational.Div(sum, sample.Number("2")))
			}
			check(c, points, uint64(i)+2)
		}
	}
	for _, kind := range []int{api.CFix, api.CHorizontal, api.CVertical, api.CMidpoint} {
		if lost[kind] < 5 || kind == api.CMidpoint && kept[kind] < 5 {
			t.Errorf("constraints of the kind %d: %d are kept, %d are not", kind, kept[kind], lost[kind])
		}
	}
}

// flatResiduals returns the residuals of a constraint whose residuals are linear, and none
// of another one.
func flatResiduals(c api.Constraint, points [][2]*big.Rat) []*big.Rat {
	minus := func(a *big.Rat, b *big.Rat) *big.Rat { return new(big.Rat).Sub(a, b) }
	p, q, r := points[c.P], points[c.Q], points[c.R]
	switch c.Kind {
	case api.CFix:
		return []*big.Rat{minus(p[0], value(c.X)), minus(p[1], value(c.Y))}
	case api.CHorizontal:
		return []*big.Rat{minus(p[1], q[1])}
	case api.CVertical:
		return []*big.Rat{minus(p[0], q[0])}
	case api.CMidpoint:
		return []*big.Rat{minus(minus(p[0], q[0]), minus(r[0], p[0])), minus(minus(p[1], q[1]), minus(r[1], p[1]))}
	}
	return nil
}

// after returns the points after a time with the velocity.
func after(points [][2]api.Ratio, velocity [][2]api.Ratio, time *big.Rat) [][2]*big.Rat {
	var out [][2]*big.Rat
	for i, p := range points {
		var q [2]*big.Rat
		for axis := range q {
			way := new(big.Rat).Mul(time, value(velocity[i][axis]))
			q[axis] = way.Add(way, value(p[axis]))
		}
		out = append(out, q)
	}
	return out
}

// P12.6: motions keep the residuals of constraints that are linear, however far.
func TestFar(t *testing.T) {
	t.Parallel()
	kept := map[int]int{}
	for i, p := range slices.Concat(special(500, 32), general(500, 2, 33)) {
		velocity, found, _ := conflict.Motion(p.Sketch, p.points)
		if !found {
			continue
		}
		start := after(p.points, velocity, new(big.Rat))
		for _, time := range []*big.Rat{big.NewRat(1, 1), big.NewRat(-7, int64(3+i)), big.NewRat(1<<60, 1)} {
			end := after(p.points, velocity, time)
			for _, c := range p.Constraints {
				before := flatResiduals(c, start)
				for k, r := range flatResiduals(c, end) {
					kept[c.Kind]++
					if r.Cmp(before[k]) != 0 {
						t.Errorf("%s of %s changes the residual %d of %+v", text(velocity), text(p.points), k, c)
					}
				}
			}
		}
	}
	for _, kind := range []int{api.CFix, api.CHorizontal, api.CVertical, api.CMidpoint} {
		if kept[kind] < 500 {
			t.Errorf("only %d residuals of the kind %d", kept[kind], kind)
		}
	}
}

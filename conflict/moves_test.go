package conflict_test

import (
	"slices"
	"strconv"
	"testing"

	"workpiece/api"
	"workpiece/conflict"
	"workpiece/integer"
	"workpiece/rational"
	"workpiece/sample"
)

// checkMoves checks Moves, and returns it, and whether it is false only because a
// number is too large.
func checkMoves(t *testing.T, s api.Sketch, points [][2]api.Ratio, velocity [][2]api.Ratio) (bool, bool) {
	t.Helper()
	got := conflict.Moves(s, points, velocity)
	want, isTooLarge := wantMoves(s, points, velocity)
	if got != want {
		t.Errorf("Moves(%+v, %s, %s) = %t", s, text(points), text(velocity), got)
	}
	return got, isTooLarge
}

// P12.1: velocities of a rod, of points that are tied in other ways, and of points that
// are free.
func TestMovesExamples(t *testing.T) {
	rod := sample.Sketch(2, sample.Distance(0, 1, "5"))
	for i, c := range []struct {
		s                api.Sketch
		points, velocity string
		want             bool
	}{
		{rod, "0 0 3 4", "1 1 1 1", true},
		{rod, "0 0 3 4", "0 0 -4 3", true},
		{rod, "0 0 3 4", "0 0 4 3", false},
		{rod, "0 0 3 4", "-4 3 4 -3", true},
		{rod, "0 0 3 4", "0 0 0 0", false},
		{rod, "0 0 0 0", "1 2 3 4", true},
		{sample.Sketch(1), "0 0", "0 -1/7", true},
		{sample.Sketch(1), "0 0", "1/7 0", true},
		{sample.Sketch(1), "0 0", "0 0", false},
		{sample.Sketch(2, sample.Fix(0, "1", "2")), "0 0 0 0", "0 0 0 1", true},
		{sample.Sketch(2, sample.Fix(0, "1", "2")), "0 0 0 0", "0 1 0 1", false},
		{sample.Sketch(2, sample.Fix(0, "1", "2")), "0 0 0 0", "1 0 0 1", false},
		{sample.Sketch(2, sample.Fix(1, "1", "2")), "0 0 0 0", "1 0 0 1", false},
		{sample.Sketch(2, sample.Fix(1, "1", "2")), "0 0 0 0", "1 1 0 0", true},
		{sample.Sketch(2, sample.Tie(api.CHorizontal, 0, 1)), "5 6 7 8", "5 2 3 2", true},
		{sample.Sketch(2, sample.Tie(api.CHorizontal, 0, 1)), "5 6 7 8", "2 5 2 3", false},
		{sample.Sketch(2, sample.Tie(api.CVertical, 0, 1), sample.Tie(api.CHorizontal, 0, 1)), "5 6 7 8", "2 5 2 3", false},
		{sample.Sketch(2, sample.Tie(api.CHorizontal, 0, 1), sample.Tie(api.CVertical, 0, 1)), "5 6 7 8", "2 5 2 3", false},
		{sample.Sketch(3, sample.Tie(api.CMidpoint, 0, 1, 2)), "5 6 7 8 0 0", "1 1 2 4 0 -2", true},
		{sample.Sketch(3, sample.Tie(api.CMidpoint, 0, 1, 2)), "5 6 7 8 0 0", "1 1 2 4 0 2", false},
		{sample.Sketch(3, sample.Tie(api.CMidpoint, 0, 1, 2)), "5 6 7 8 0 0", "1 1 2 4 1 -2", false},
	} {
		if got, _ := checkMoves(t, c.s, pairs(c.points), pairs(c.velocity)); got != c.want {
			t.Errorf("%d: Moves = %t", i, got)
		}
	}
}

// scaled returns the velocity multiplied by r, and false if that is too large.
func scaled(velocity [][2]api.Ratio, r api.Ratio) ([][2]api.Ratio, bool) {
	out := slices.Clone(velocity)
	ok := true
	for i, v := range velocity {
		for axis := range v {
			product, err := rational.Mul(v[axis], r)
			out[i][axis], ok = product, ok && err == api.OK
		}
	}
	return out, ok
}

// velocities returns velocities of the points of p, of which some keep its constraints.
func velocities(p placed, seed uint64) [][][2]api.Ratio {
	out := [][][2]api.Ratio{sample.Places(p.Points, 2, seed), grid(p.Points, 1, seed), slices.Repeat(sample.Places(1, 3, seed), p.Points), make([][2]api.Ratio, p.Points)}
	if motion, ok, _ := conflict.Motion(p.Sketch, p.points); ok {
		changed := slices.Clone(motion)
		place := int(sample.Bytes(1, seed)[0]) % (2 * p.Points)
		changed[place/2][place%2] = sample.Places(1, 2, seed)[0][0]
		out = append(out, motion, changed)
		large := sample.LargeFractions()
		for k := range 3 {
			if v, ok := scaled(motion, large[(int(seed%1000)*3+k)%len(large)]); ok {
				out = append(out, v)
			}
		}
	}
	return append(out, make([][2]api.Ratio, p.Points-1))
}

// P12.1: velocities that keep constraints, and such that do not, or are too large.
func TestMoves(t *testing.T) {
	t.Parallel()
	list := slices.Concat(special(200, 11), general(100, 1, 12), general(60, 3, 13), general(40, 12, 14))
	kept, lost, large := 0, 0, 0
	for i, p := range list {
		for _, v := range velocities(p, uint64(i)) {
			got, isTooLarge := checkMoves(t, p.Sketch, p.points, v)
			switch {
			case got:
				kept++
			case isTooLarge:
				large++
			default:
				lost++
			}
		}
	}
	if kept < 500 || lost < 1000 || large < 100 {
		t.Errorf("only %d velocities keep the constraints, %d do not, and %d are too large", kept, lost, large)
	}
}

// P12.1: sums are computed in the order of the points, x before y; a velocity is refused
// if one of them is too large, even if the last one is not.
func TestMovesTooLarge(t *testing.T) {
	long, short := "1/1"+sample.Power(96)[1:]+"1", "1/10000003"
	opposite := func(s string) string { return "-" + s }
	nines := sample.Nines()
	level := sample.Sketch(3, sample.Tie(api.CHorizontal, 0, 1))
	// The derivatives are 1 and 1, and -1 and -1.
	slope := sample.Sketch(2, sample.Distance(0, 1, "1"))
	turned := sample.Sketch(2, sample.Distance(1, 0, "1"))
	third, _, _ := integer.Div(nines, "3")
	for i, c := range []struct {
		s                api.Sketch
		points, velocity string
		want, large      bool
	}{
		{slope, "1/2 1/2 0 0", long + " " + short + " " + short + " " + long, true, false},
		{turned, "1/2 1/2 0 0", long + " " + short + " " + short + " " + long, true, false},
		{slope, "1/2 1/2 0 0", short + " " + long + " " + short + " " + long, true, false},
		{slope, "1/2 1/2 0 0", long + " " + short + " " + long + " " + short, false, true},
		{slope, "1/2 1/2 0 0", short + " " + long + " " + long + " " + short, false, true},
		{slope, "1/2 1/2 0 0", long + " " + opposite(long) + " " + short + " " + opposite(short), true, false},
		{slope, "1/2 1/2 0 0", nines + " 0 " + nines + " 0", true, false},
		{slope, "1/2 1/2 0 0", nines + " 0 0 " + nines, true, false},
		{slope, "1/2 1/2 0 0", nines + " 0 0 0", false, false},
		{slope, "1/2 1/2 0 0", nines + " 1 " + nines + " 1", false, true},
		{slope, "1/2 1/2 0 0", nines + " -1 " + nines + " -1", true, false},
		// The derivatives are 4 and 4, and 2 and 2.
		{slope, "2 2 0 0", third + " 0 " + third + " 0", false, true},
		{slope, "1 1 0 0", third + " 0 " + third + " 0", true, false},
		{level, "0 0 0 0 0 0", "0 " + nines + " 0 " + nines + " 0 0", true, false},
		{level, "0 0 0 0 0 0", "0 1/" + nines + " 0 1/" + nines + " 0 0", false, true},
		{level, "0 0 0 0 0 0", "0 1/" + nines[:100] + " 0 1/" + nines[:100] + " 0 0", true, false},
		{level, "0 0 0 0 0 0", "0 1/" + nines[:101] + " 0 1/" + nines[:101] + " 0 0", false, true},
		// Numbers that are multiplied by 0 may have any size.
		{level, "0 0 0 0 0 0", nines + " 1 1/" + nines + " 1 -" + nines + " -1/" + nines, true, false},
	} {
		got, isTooLarge := checkMoves(t, c.s, pairs(c.points), pairs(c.velocity))
		if got != c.want || isTooLarge != c.large {
			t.Errorf("%d: Moves = %t, too large: %t", i, got, isTooLarge)
		}
	}
}

// P12.1: a velocity has as many pairs as the sketch has points, and all of its fractions
// are valid, also those of points that no constraint uses.
func TestMovesForm(t *testing.T) {
	one := sample.Number("1")
	for n := 1; n <= 8; n++ {
		for _, s := range []api.Sketch{sample.Sketch(n), sample.Sketch(n, sample.Fix(n-1, "1", "2"))} {
			for given := range 40 {
				velocity := make([][2]api.Ratio, given)
				for i := range velocity {
					velocity[i] = [2]api.Ratio{sample.Number("0"), one}
				}
				checkMoves(t, s, grid(n, 2, 1), velocity)
				checkMoves(t, s, grid(given, 2, 1), velocity)
				checkMoves(t, s, grid(given, 2, 1), velocity[:min(n, given)])
				if given >= n {
					velocity[n-1][1] = sample.Number("0")
					if got, _ := checkMoves(t, s, grid(n, 2, 1), velocity); got != (given == n && (n > 1)) {
						t.Errorf("Moves of %d of %d points = %t", given, n, got)
					}
				}
			}
		}
	}
	for _, free := range []api.Sketch{sample.Sketch(3), sample.Sketch(3, sample.Tie(api.CHorizontal, 0, 1))} {
		for _, r := range sample.InvalidFractions() {
			for place := range 12 {
				velocity := slices.Repeat([][2]api.Ratio{{sample.Number(strconv.Itoa(place / 6)), one}}, 3)
				velocity[place%6/2][place%2] = r
				if got, _ := checkMoves(t, free, grid(3, 2, 1), velocity); got {
					t.Errorf("Moves with %.50q at the place %d", r, place)
				}
			}
		}
	}
}

// P12.1: sketches that are not valid.
func TestMovesInvalid(t *testing.T) {
	for _, s := range sample.InvalidSketches() {
		for _, n := range []int{0, 1, 2, 8, 9} {
			if got, _ := checkMoves(t, s, grid(n, 3, 1), slices.Repeat(pairs("1 1"), n)); got {
				t.Errorf("Moves of %d points, %d constraints = true", s.Points, len(s.Constraints))
			}
		}
	}
}

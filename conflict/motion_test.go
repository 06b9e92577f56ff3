package conflict_test

import (
	"slices"
	"testing"

	"workpiece/api"
	"workpiece/conflict"
	"workpiece/sample"
)

// checkMotion checks Motion of s at the points, and returns the text of its outcome.
func checkMotion(t *testing.T, s api.Sketch, points [][2]api.Ratio) string {
	t.Helper()
	got := motionOutcome(conflict.Motion(s, points))
	if want := wantMotion(s, points); got != want {
		t.Errorf("Motion(%+v, %s) = %s instead of %s", s, text(points), got, want)
	}
	return got
}

// P12.1: the examples of the chapter, and a few others.
func TestMotionExamples(t *testing.T) {
	few := sample.Based(3, sample.Distance(0, 2, "1"), sample.Tie(api.CHorizontal, 0, 1))
	full := sample.Based(3, sample.Distance(0, 2, "5"), sample.Distance(1, 2, "3"), sample.Tie(api.CHorizontal, 0, 1))
	rod := sample.Sketch(2, sample.Distance(0, 1, "5"))
	for i, c := range []struct {
		s            api.Sketch
		points, want string
	}{
		{few, "0 0 4 0 1 0", "0, 0; 0, 0; 0, 1"},
		{full, "0 0 4 0 4 3", ""},
		// At other points, the constraints do not hold, and their derivatives may be 0.
		{full, "0 0 4 0 4 0", "0, 0; 0, 0; 0, 1"},
		{full, "0 0 4 0 0 0", "0, 0; 0, 0; 0, 1"},
		{full, "1 1 1 1 1 1", "0, 0; 0, 0; 1, 0"},
		{full, "0 0 0 0 0 1", "0, 0; 0, 0; 1, 0"},
		{full, "0 0 0 0 1/2 -1/3", "0, 0; 0, 0; 2/3, 1"},
		{rod, "0 0 3 4", "-4/3, 1; 0, 0"},
		{rod, "3 4 0 0", "-4/3, 1; 0, 0"},
		{rod, "7 -2 7 5", "1, 0; 0, 0"},
		{rod, "7 -2 5 -2", "0, 1; 0, 0"},
		{rod, "1/3 1/3 1/3 1/3", "1, 0; 0, 0"},
		{sample.Sketch(1), "7 7", "1, 0"},
		{sample.Sketch(3), "7 7 0 -1 0 -1", "1, 0; 0, 0; 0, 0"},
		{sample.Sketch(1, sample.Fix(0, "1", "2")), "7 7", ""},
		{sample.Sketch(2, sample.Fix(0, "1", "2")), "7 7 0 0", "0, 0; 1, 0"},
		{sample.Sketch(2, sample.Fix(1, "1", "2")), "7 7 0 0", "1, 0; 0, 0"},
		{sample.Sketch(2, sample.Tie(api.CVertical, 0, 1), sample.Fix(1, "1", "2")), "7 7 0 0", "0, 1; 0, 0"},
		{sample.Sketch(2, sample.Tie(api.CHorizontal, 0, 1), sample.Tie(api.CVertical, 1, 0)), "7 7 0 0", "1, 0; 1, 0"},
		{sample.Sketch(3, sample.Tie(api.CMidpoint, 1, 0, 2), sample.Fix(1, "0", "0")), "0 0 1 1 3 5", "-1, 0; 0, 0; 1, 0"},
	} {
		if got := checkMotion(t, c.s, pairs(c.points)); got != c.want {
			t.Errorf("%d: Motion = %s instead of %s", i, got, c.want)
		}
	}
}

// P12.1: sketches of all sizes, with points of up to 12 digits.
func TestMotion(t *testing.T) {
	t.Parallel()
	list := special(700, 1)
	for length, count := range map[int]int{1: 300, 2: 200, 3: 150, 5: 120} {
		list = append(list, general(count, length, uint64(length))...)
	}
	outcomes := map[string]int{}
	for _, p := range list {
		outcomes[kindOf(checkMotion(t, p.Sketch, p.points))]++
	}
	if outcomes["found"] < 900 || outcomes["none"] < 500 {
		t.Errorf("the outcomes %v", outcomes)
	}
}

// kindOf returns a word for the outcome of Motion.
func kindOf(outcome string) string {
	switch outcome {
	case "":
		return "none"
	case refused:
		return "too large"
	}
	return "found"
}

// P12.1: sketches of which some have too large numbers, sooner or later.
func TestMotionTooLarge(t *testing.T) {
	t.Parallel()
	outcomes := map[string]int{}
	for _, p := range bulky(150, 2) {
		outcomes[kindOf(checkMotion(t, p.Sketch, p.points))]++
	}
	if outcomes["found"] < 50 || outcomes["too large"] < 50 {
		t.Errorf("the outcomes %v", outcomes)
	}
}

// P12.1: an element is divided by itself, too, and subtracted from itself, even if the
// result is known, and everything else that is computed is not too large.
func TestMotionKnown(t *testing.T) {
	for i, c := range []struct{ sketch, points string }{
		// The quotient of an element and itself is too large,
		{"5; 3 1 2 0 0; 5 1 2 3 0; 7 2 1 0 0; 1 2 0 0 0 1 2; 3 2 0 0 0; 4 3 4 0 0; 6 2 4 3 2; 6 1 0 4 2; 5 4 2 0 0; 4 3 2 0 0", "467500/921 99900009998 5288/999999999 9999/10 7493/939999 1/109999 4/10249999999 19999/999 1399990000/409 989999/999999981276"},
		{"5; 8 0 3 4 0; 2 4 3 0 0 3; 4 0 2 0 0; 1 1 0 0 0 1 2; 5 4 2 1 0; 2 1 4 0 0 3; 4 0 4 0 0; 6 1 3 2 3; 8 1 2 0 0", "25/896 133/80000 999/50000 2311/10000 9999/100000 90000/599999 90000/109999 30000/6509999 -999999/1009999 -589999/59659999"},
		{"5; 8 1 0 3 0; 2 1 4 0 0 3; 4 1 3 0 0; 1 3 0 0 0 1 2; 3 3 2 0 0; 7 0 4 2 0; 4 3 1 0 0; 6 2 0 2 4; 5 1 2 3 0; 2 2 4 0 0 3", "1250/31 7/71427994 -1000/3 -118181818/910909 -100/6499999999 -39999/101 -1/900013567 -93189999/8 -9900010001/91749998 -523/2911159999"},
		// and the difference of an element and itself.
		{"6; 3 3 2 0 0; 8 3 5 0 0; 2 2 4 0 0 3; 1 3 0 0 0 1 2; 6 3 1 0 3; 5 5 0 2 0", "999999999/100001 799990000/13030001 119999/109998 942/899985703 998/99 399989999/312899999 499/49996373 34/144479 24179851/99999405 33691/13 26520/962389999 5/17"},
		{"5; 8 4 2 1 0; 2 3 2 0 0 3; 4 4 1 0 0; 6 4 1 2 4; 3 0 4 0 0; 1 4 0 0 0 1 2; 1 3 0 0 0 1 2; 5 0 3 4 0; 7 0 3 2 0; 1 0 0 0 0 1 2; 3 0 1 0 0", "622963/44443786 1/3738126487 69998/99843349999 96933/5480581 9114597659/6981107 99/10007614 9764042671/60096222716 9990735/14383 4076381/36999 49998749/57734683"},
		{"5; 7 4 1 0 0; 1 0 0 0 0 1 2; 3 4 0 0 0; 5 0 4 1 0; 7 1 4 3 0; 1 0 0 0 0 1 2; 3 1 3 0 0; 5 0 2 3 0; 2 2 0 0 0 3; 8 2 1 3 0", "2705995/7772 1007542/3 584/33335629 500/900000023 1/140000 9/130000 1/4990000 9900004573/100 7700002772/7373 999999/100099999999"},
	} {
		if got := checkMotion(t, sample.SketchOf(c.sketch), pairs(c.points)); got != refused {
			t.Errorf("%d: Motion = %s", i, got)
		}
	}
}

// P12.1: each kind of constraint, and each pair of kinds.
func TestMotionKinds(t *testing.T) {
	all := sample.Constraints(4)
	for i, c := range all {
		checkMotion(t, sample.Sketch(4, c), grid(4, 2, uint64(i)))
		other := all[(i*7+i/5)%len(all)]
		checkMotion(t, sample.Sketch(4, c, other), sample.Places(4, 2, uint64(i)))
		checkMotion(t, sample.Sketch(5, c, other, c), grid(5, 1, uint64(i)))
	}
}

// P12.1: sketches that are not valid, and other numbers of points than they have.
func TestMotionInvalid(t *testing.T) {
	places := grid(8, 3, 1)
	for _, s := range sample.InvalidSketches() {
		for _, n := range []int{0, 1, 2, 7, 8} {
			if got := checkMotion(t, s, places[:n]); got != refused {
				t.Errorf("Motion of %d points, %d constraints = %s", s.Points, len(s.Constraints), got)
			}
		}
	}
	for n := 1; n <= 8; n++ {
		for _, s := range []api.Sketch{sample.Sketch(n), sample.Sketch(n, sample.Fix(0, "1", "2")), sample.Sketch(n, slices.Repeat([]api.Constraint{sample.Fix(n-1, "1", "2")}, 16)...)} {
			for given := range 40 {
				if got := checkMotion(t, s, grid(given, 3, 1)); (got == refused) != (given != n) {
					t.Errorf("Motion of %d of %d points = %s", given, n, got)
				}
			}
			if got := checkMotion(t, s, make([][2]api.Ratio, 1<<16)); got != refused {
				t.Errorf("Motion of %d points = %s", 1<<16, got)
			}
		}
	}
}

// longCoordinates returns fractions that are not valid, or not short.
func longCoordinates() []api.Ratio {
	long := sample.Numbers("1000000000000 -1000000000000 1/1000000000000 999999999999/1000000000000 1000000000000/999999999999 -1/1000000000007")
	return slices.Concat(sample.InvalidFractions(), long, []api.Ratio{{Num: sample.Nines(), Den: "1"}})
}

// P12.1: all coordinates are short, also those that no constraint uses.
func TestMotionShort(t *testing.T) {
	short := sample.Numbers("999999999999 -999999999999 1/999999999999 -999999999998/999999999999 0")
	for _, s := range []api.Sketch{sample.Sketch(3), sample.Sketch(3, sample.Fix(1, "1", "2")), sample.Based(3, sample.Distance(0, 2, "1"), sample.Distance(1, 2, "1"))} {
		for place := range 6 {
			points := grid(3, 5, 7)
			for _, r := range longCoordinates() {
				points[place/2][place%2] = r
				if got := checkMotion(t, s, points); got != refused {
					t.Errorf("Motion of %+v with %.50q at the place %d = %s", s, r, place, got)
				}
				if conflict.Moves(s, points, pairs("1 1 1 1 1 1")) || conflict.Moves(s, points, pairs("0 0 0 0 0 1")) {
					t.Errorf("Moves of %+v with %.50q at the place %d", s, r, place)
				}
			}
			for _, r := range short {
				points[place/2][place%2] = r
				if got := checkMotion(t, s, points); got == refused {
					t.Errorf("Motion of %+v with %q at the place %d = %s", s, r, place, got)
				}
			}
		}
	}
}

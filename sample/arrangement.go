package sample

import "workpiece/api"

// Arrangements returns lists of curves that meet in all ways: in no, one or two points,
// which are rational or not, at different abscissas or at the same one, and which touch
// each other, are parallel, or have the same points.
func Arrangements() [][]api.Curve {
	var out [][]api.Curve
	for _, s := range []string{
		"",
		"line 1 0 3", "line -1 0 1/2", "line 0 1 -2", "line 1 2 3", "circle 0 0 4", "circle 1/2 -3 2",
		// Lines.
		"line 1 0 3; line -1 0 -3; line 1 0 1", "line 0 1 3; line 0 -1 -3; line 0 -1 0", "line 1 1 0; line 1 -1 0", "line 1 1 0; line 1 1 5", "line 1 1 5; line -1 -1 -5", "line 1 1 5; line -1 -1 0; line 1 1 5",
		"line 1 0 3; line 0 1 1; line 0 -1 0", "line 1 2 3; line 1 -2 3; line 1 0 3", "line 1 1 2; line 1 -1 0; line 0 1 1; line 1 3 4; line 1 0 1",
		"line 1 1/1000000 0; line 1 -1/1000000 0", "line 1 1 1/3; line 1 2 2/7; line 1 3 5/11; line 1 5 1/13",
		// A line and a circle.
		"circle 0 0 4; line -1 1 0", "line -1 1 0; circle 0 0 4", "circle 0 0 4; line 0 1 2", "line 0 -1 2; circle 0 0 4", "circle 0 0 4; line 0 1 3", "line 0 -1 0; circle 0 0 4",
		"circle 0 0 25; line 1 4/3 25/3", "line 1 -4/3 -25/3; circle 0 0 25", "circle 0 0 25; line 1 7 25", "circle 0 0 4; line 1 0 2", "line -1 0 2; circle 0 0 4", "circle 1 2 3; line 1 1/2 1/3",
		// Circles.
		"circle 0 0 4; circle 2 0 4", "circle 0 0 4; circle 4 0 4", "circle 0 0 4; circle 1 0 1", "circle 0 0 4; circle 5 0 4", "circle 0 0 4; circle 0 0 1", "circle 0 0 4; circle 0 0 4", "circle 0 0 9; circle 1 0 1",
		"circle 0 0 1; circle 0 2 1", "circle 0 0 4; circle 0 1 1", "circle 0 0 4; circle 0 2 4", "circle 0 0 4; circle 0 5 4", "circle 0 0 2; circle 1 1 2", "circle 0 0 25; circle 8 6 25", "circle 0 0 100; circle 3 4 25", "circle 3 4 25; circle 0 0 100",
		"circle 0 0 9; circle 1 1 1", "circle 0 0 1; circle 3 3 1", "circle 1/3 2 7/5; circle 1 5/2 2", "circle 0 0 1; circle 1000 0 998001", "circle 0 0 25; circle 6 0 25; circle 3 4 1",
		// Many at the same abscissa, in different towers.
		"circle 0 0 4; line -1 1 0; circle 0 0 2", "circle 0 0 2; line 0 1 0; circle 0 5 2; line 0 1 5", "circle 0 0 4; line 1 0 2; line 0 1 0; circle 4 0 4", "circle 0 0 8; line 1 1 0; line 1 -1 0; line 0 1 2; line 1 0 -2",
		"circle 1 0 1; circle -1 0 1; circle 0 1 1; circle 0 -1 1; line 1 1 0; line 0 1 0; line 1 0 0", "circle 0 0 3; circle 2 0 3; line 0 1 0; line 1 0 1", "circle 0 0 18; circle 0 3 9; line 1 -1 0",
		// The curves of a plate with a hole, and of two of them.
		"line -1 0 0; line 1 0 4; line 0 -1 0; line 0 1 4; circle 2 2 1", "line -1 0 0; line 1 0 4; line 0 -1 0; line 0 1 4; circle 2 2 1; line -1 0 -1; line 1 0 6; circle 4 2 1", "circle 0 0 1; circle 3/2 0 1; circle 3/4 1 1",
	} {
		out = append(out, CurvesOf(s))
	}
	return out
}

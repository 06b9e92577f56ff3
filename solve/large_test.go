package solve_test

import (
	"testing"

	"workpiece/sample"
)

// P11.1: sketches for which it matters in which order something is computed, and
// whether it is, since it is too large, or nearly so.
func TestLarge(t *testing.T) {
	for i, c := range []struct {
		text string
		want sample.Refusal
	}{
		// The foot of the perpendicular is too large, and the line misses the circle.
		{"7; 3 0 4 0 0; 7 2 4 5 0; 1 4 0 0 0 1903/951 -999/1000; 8 6 4 1 0; 8 6 5 0 0; 3 1 6 0 0; 1 6 0 0 0 1/5021271 1/99993888; 2 0 1 0 0 22/7; 7 3 6 5 0; 2 4 5 0 0 51/100", "too large"},
		// One constraint does not hold, and a later one is too large.
		{"3; 1 0 0 0 0 19/6 999999999999/999999999998; 6 1 0 1 0; 2 2 0 0 0 13/5; 2 1 2 0 0 4996/999; 1 1 0 0 0 1/99 1/386", "too large to check"},
		{"3; 1 0 0 0 0 4 999999999999/999999999998; 3 0 1 0 0; 2 2 0 0 0 457/182; 2 1 2 0 0 1222/407; 1 1 0 0 0 12/11 999/998", "too large to check"},
		// A constraint that is used by a step is too large.
		{"3; 2 0 2 0 0 506/101; 1 1 0 0 0 1/11 1/934; 8 1 0 2 0; 1 0 0 0 0 10993/3664 999999999999/999999999998", "too large to check"},
		{"3; 2 0 2 0 0 1691/845; 1 0 0 0 0 81/40 201/100; 8 1 0 2 0; 1 1 0 0 0 999999999999/999999999998 1/93215", "too large to check"},
		// The inverse is too large in the tower with the new root, but not below it.
		{"4; 1 2 0 0 0 1/9 70/69; 1 3 0 0 0 100/99 976/975; 5 3 1 2 0; 8 2 1 0 0; 8 0 1 3 0; 2 2 1 0 0 71853723/71853722", "too large"},
		{"4; 1 2 0 0 0 0 -54/55; 5 2 1 0 0; 6 0 2 1 3; 1 1 0 0 0 10000/9999 36449/18224; 2 1 0 0 0 9980001/9980000; 8 0 2 3 0", "too large"},
		// Two lines are parallel, and the sign of p is enough to tell that they differ.
		{"7; 1 6 0 0 0 0 34/11; 7 0 3 6 0; 1 5 0 0 0 101/100 18603/9301; 8 0 1 5 0; 8 4 3 6 0; 3 0 1 0 0; 2 5 2 0 0 507/202; 1 1 0 0 0 12/11 736/735; 8 2 1 5 0; 6 6 0 2 4", ""},
		// With another order of products, quotients or sums these would not be too large,
		{"7; 8 1 0 5 0; 6 3 6 4 0; 8 3 6 5 0; 1 4 0 0 0 1/1000 1/11268; 3 4 2 0 0; 3 0 1 0 0; 6 5 2 5 0; 5 0 6 4 0; 8 1 4 0 0; 1 0 0 0 0 3599980001/3599980000 20199964813/10099982406; 5 4 1 5 0; 2 6 5 0 0 327/130", "too large"},
		{"7; 8 1 0 5 0; 6 3 6 4 0; 8 3 6 5 0; 1 4 0 0 0 1/11268 1/1000; 4 4 2 0 0; 4 0 1 0 0; 6 5 2 5 0; 5 0 6 4 0; 8 1 4 0 0; 1 0 0 0 0 20199964813/10099982406 3599980001/3599980000; 5 4 1 5 0; 2 6 5 0 0 327/130", "too large"},
		{"6; 2 2 5 0 0 757/302; 5 0 5 4 0; 3 2 1 0 0; 8 3 0 5 0; 2 0 3 0 0 19994053/9997026; 1 4 0 0 0 -2982565/1988378 -9509101/6339402; 2 2 4 0 0 4000018286/800003657; 2 1 4 0 0 18000019999/9000009999; 2 4 5 0 0 53499950006/10699990001; 5 1 2 0 0; 3 2 4 0 0", "too large"},
		{"8; 7 2 1 4 0; 4 3 4 0 0; 1 4 0 0 0 357/710 -29995/19998; 5 3 5 0 0; 8 5 2 4 0; 1 2 0 0 0 1819391/909695 2922405/1461202; 8 5 4 7 0; 8 2 6 7 0; 7 0 4 1 0; 3 4 6 0 0; 1 7 0 0 0 5099995001/10199990000 3", "too large"},
		// and this one would be.
		{"4; 1 2 0 0 0 1 65/64; 6 2 0 2 3; 5 3 2 1 0; 8 1 2 0 0; 2 3 1 0 0 21434557/1648812; 1 1 0 0 0 1591271/795635 19980395/9990197", ""},
	} {
		if _, _, reason := checkSolve(t, sample.SketchOf(c.text)); reason != c.want {
			t.Errorf("%d: %q instead of %q", i, reason, c.want)
		}
	}
}

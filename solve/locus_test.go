package solve

import (
	"testing"

	"workpiece/api"
)

// P11.1: a degenerate line whose equation holds nowhere crosses nothing, unlike one
// whose equation holds everywhere. (No sketch has such a line.)
func TestDegenerate(t *testing.T) {
	var f field
	none, full := f.constant(zero), f.constant(one)
	everywhere, nowhere, proper := line{none, none, none}, line{none, none, full}, line{full, none, full}
	through := line{none, full, none}
	round := circle{point{none, none}, full}
	for i, c := range []struct {
		first, second locus
		want          api.Errno
		points        int
	}{
		{everywhere, everywhere, api.ErrSolve, 0},
		{everywhere, nowhere, api.OK, 0},
		{nowhere, everywhere, api.OK, 0},
		{nowhere, nowhere, api.OK, 0},
		{everywhere, proper, api.ErrSolve, 0},
		{proper, everywhere, api.ErrSolve, 0},
		{nowhere, proper, api.OK, 0},
		{proper, nowhere, api.OK, 0},
		{everywhere, round, api.ErrSolve, 0},
		{round, everywhere, api.ErrSolve, 0},
		{nowhere, round, api.OK, 0},
		{round, nowhere, api.OK, 0},
		{proper, through, api.OK, 1},
		{proper, round, api.OK, 1},
		{round, through, api.OK, 2},
	} {
		found, err := attempt(func() crossing { return c.first.crossing(f, c.second) })
		if err != c.want || len(found.points) != c.points {
			t.Errorf("%d: %d, %d points", i, err, len(found.points))
		}
	}
}

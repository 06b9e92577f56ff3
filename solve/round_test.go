package solve_test

import (
	"slices"
	"testing"

	"workpiece/api"
	"workpiece/rational"
	"workpiece/sample"
	"workpiece/solve"
	"workpiece/tower"
)

// wantRound returns the outcome of Round.
func wantRound(x api.Solution, places int) string {
	if len(x.Points) < 1 || len(x.Points) > 8 {
		return refused
	}
	failed := false
	var out [][2]api.Ratio
	for _, p := range x.Points {
		var low [2]api.Ratio
		for axis, a := range p {
			near, err := tower.Enclose(x.Tower, a, places)
			failed = failed || err != api.OK
			low[axis] = near.Lo
		}
		out = append(out, low)
	}
	if failed {
		return refused
	}
	return roundOutcome(out, api.OK)
}

// checkRound checks the result of Round.
func checkRound(t *testing.T, x api.Solution, places int) string {
	t.Helper()
	got, want := roundOutcome(solve.Round(x, places)), wantRound(x, places)
	if got != want {
		t.Errorf("Round(%s, %d) = %s instead of %s", solutionText(x), places, got, want)
	}
	return got
}

// P11.1: rounded solutions, with few places and many.
func TestRoundExamples(t *testing.T) {
	list, _ := solve.Solve(sample.Based(3, sample.Distance(0, 2, "3"), sample.Distance(1, 2, "3")))
	for i, c := range []struct {
		places int
		want   [2]string
	}{
		{0, [2]string{"0, 0; 4, 0; 2, -3", "0, 0; 4, 0; 2, 2"}},
		{1, [2]string{"0, 0; 4, 0; 2, -23/10", "0, 0; 4, 0; 2, 11/5"}},
		{4, [2]string{"0, 0; 4, 0; 2, -22361/10000", "0, 0; 4, 0; 2, 559/250"}},
		{20, [2]string{"0, 0; 4, 0; 2, -223606797749978969641/100000000000000000000", "0, 0; 4, 0; 2, 5590169943749474241/2500000000000000000"}},
		{-1, [2]string{refused, refused}},
		{21, [2]string{refused, refused}},
		{-1 << 63, [2]string{refused, refused}},
		{1<<63 - 1, [2]string{refused, refused}},
	} {
		for k, x := range list {
			if got := checkRound(t, x, c.places); got != c.want[k] {
				t.Errorf("%d: %s instead of %s", i, got, c.want[k])
			}
		}
	}
}

// P11.1: from 1 to 8 points, all of whose coordinates are elements of the tower.
func TestRoundPoints(t *testing.T) {
	t.Parallel()
	for i, s := range sample.Extensions() {
		u := sample.Tower(s.Text)
		elements := s.All(20, 1+i*6, uint64(i))
		for n := i % 3; n < 11; n += 3 {
			x := api.Solution{Tower: u}
			for k := range n {
				x.Points = append(x.Points, [2][]api.Ratio{elements[(2*k+n)%len(elements)], elements[(2*k+n+1)%len(elements)]})
			}
			for _, places := range []int{-1, n, 20, 21} {
				checkRound(t, x, places)
			}
			if n == 0 || n > 8 {
				continue
			}
			for k, r := range sample.InvalidFractions()[n:] {
				wrong := slices.Clone(elements[k%len(elements)])
				wrong[k%len(wrong)] = r
				other := api.Solution{Tower: u, Points: slices.Clone(x.Points)}
				other.Points[k%n][k%2] = wrong
				if got := roundOutcome(solve.Round(other, 2)); got != refused {
					t.Errorf("Round(%s, 2) = %s", solutionText(other), got)
				}
			}
		}
	}
	one := [2][]api.Ratio{sample.Numbers("1"), sample.Numbers("1")}
	for i, x := range []api.Solution{
		{}, {Tower: sample.Tower("2")}, {Points: make([][2][]api.Ratio, 1)}, {Points: make([][2][]api.Ratio, 1<<20)},
		{Points: slices.Repeat([][2][]api.Ratio{one}, 9)}, {Tower: sample.Tower("2"), Points: [][2][]api.Ratio{one}},
		{Points: [][2][]api.Ratio{one, {one[0], nil}}}, {Points: [][2][]api.Ratio{one, {sample.Numbers("1 1"), one[1]}}},
	} {
		if got := checkRound(t, x, 2); got != refused {
			t.Errorf("%d: %s", i, got)
		}
	}
	for i, u := range sample.InvalidTowers() {
		if got := roundOutcome(solve.Round(api.Solution{Tower: u, Points: [][2][]api.Ratio{one}}, 2)); got != refused {
			t.Errorf("%d: %s", i, got)
		}
	}
}

// P11.7: rounded coordinates are not greater than the coordinates, by at most the width
// of what encloses them.
func TestRoundBounds(t *testing.T) {
	t.Parallel()
	coordinates, smaller := 0, 0
	for i, s := range sketches(150, 31) {
		list, _ := solve.Solve(s)
		for k, x := range list {
			places := (i*7 + k) % 21
			rounded, err := solve.Round(x, places)
			if err != api.OK {
				t.Errorf("Round(%s, %d): %d", solutionText(x), places, err)
				continue
			}
			for p, low := range rounded {
				for axis, r := range low {
					coordinates++
					if isBelow(t, x, x.Points[p][axis], r, places) {
						smaller++
					}
				}
			}
		}
	}
	if coordinates < 1500 || smaller < 500 {
		t.Errorf("only %d coordinates, %d of them with a smaller fraction", coordinates, smaller)
	}
}

// isBelow checks that the fraction r is not greater than the coordinate a of x, by at
// most the width of what encloses it. It reports whether r is smaller, unless that is too
// large to be known.
func isBelow(t *testing.T, x api.Solution, a []api.Ratio, r api.Ratio, places int) bool {
	t.Helper()
	near, _ := tower.Enclose(x.Tower, a, places)
	width, _ := rational.Sub(near.Hi, near.Lo)
	high, _ := rational.Add(r, width)
	var orders [2]int
	for i, bound := range []api.Ratio{r, high} {
		b, _ := tower.FromRatio(x.Tower, bound)
		order, err := tower.Compare(x.Tower, a, b)
		if err != api.OK {
			return false
		}
		orders[i] = order
	}
	if orders[0] < 0 || orders[1] > 0 {
		t.Errorf("%s is rounded to %s with %d places", text(a), rational.Print(r), places)
	}
	return orders[0] > 0
}

package solve_test

import (
	"encoding/binary"
	"slices"
	"strings"
	"testing"

	"workpiece/api"
	"workpiece/sample"
	"workpiece/solve"
	"workpiece/tower"
)

// lengths are numbers of digits for which formulas are too large in different places.
var lengths = []int{3, 17, 24, 33, 40, 50, 67, 100, 150, api.MaxDigits}

// numbersOf returns elements of the tower of an extension with up to length digits.
// Half of the calls return such as are made of two of them, so that they cancel each
// other where they are added in one order, and not in another one.
func numbersOf(s sample.Extension, length int, seed uint64) [][]api.Ratio {
	u := sample.Tower(s.Text)
	all := s.All(12, length, seed)
	if seed%2 == 0 {
		return all
	}
	zero, one := all[0], all[1]
	out := [][]api.Ratio{zero, one, zero, one}
	add := func(a []api.Ratio, err api.Errno) {
		if err == api.OK {
			negative, _ := tower.Sub(u, zero, a)
			out = append(out, a, negative)
		}
	}
	x, y := all[len(all)-1], all[len(all)-2]
	add(one, api.OK)
	add(x, api.OK)
	add(y, api.OK)
	add(tower.Mul(u, x, x))
	add(tower.Mul(u, y, y))
	add(tower.Add(u, x, y))
	return out
}

// weight returns how much longer calculations in u take than those with fractions.
func weight(u api.Tower) int {
	level := len(u.Radicands)
	return 1 + level*level*level
}

// choices returns bytes that do not depend on the seed in a simple way, so that all of
// their combinations occur.
func choices(size int, seed uint64) string {
	return sample.Bytes(size, binary.BigEndian.Uint64([]byte(sample.Bytes(8, seed))))
}

// join returns a text of several elements.
func join(elements ...[]api.Ratio) string {
	var out []string
	for _, a := range elements {
		out = append(out, text(a))
	}
	return strings.Join(out, ", ")
}

// wantPlaced returns a text of the locus of the point p by c, or of its position.
func (b placement) wantPlaced(c api.Constraint, p int) string {
	if !sample.IsLocus(c, p) {
		found := b.positions([]api.Constraint{c}, api.Step{Point: p, Second: -1})
		return join(found.points[0][:]...)
	}
	s := scope{sample.ScopeOf(b.tower)}
	if b.locus(s, c, p, "") {
		return "line " + join(s.Values["a"], s.Values["b"], s.Values["c"])
	}
	return "circle " + join(s.Values["u"], s.Values["v"], s.Values["R"])
}

// placed returns a text of what the program has for the same.
func (b placement) placed(c api.Constraint, p int) string {
	var points [][2][]api.Ratio
	for i := range len(b.points) {
		points = append(points, b.points[i])
	}
	if !sample.IsLocus(c, p) {
		found, err := solve.PositionOf(b.tower, points, p, c)
		return sample.Outcome(join(found[:]...), found[0] == nil && found[1] == nil, err)
	}
	found, err := solve.LocusOf(b.tower, points, p, c)
	kind := "circle "
	if found.IsLine {
		kind = "line "
	}
	return sample.Outcome(kind+join(found.Numbers[:]...), found.Numbers[0] == nil, err)
}

// checkPlaced checks the locus of the point p by c, or its position, and returns the
// outcome.
func (b placement) checkPlaced(t *testing.T, c api.Constraint, p int) string {
	t.Helper()
	got, want := b.placed(c, p), sample.Calculated(api.ErrSolve, func() string { return b.wantPlaced(c, p) })
	if got != want {
		t.Errorf("%+v for %d at %v in %v: %s instead of %s", c, p, b.points, b.tower, got, want)
	}
	return got
}

// P11.1: the loci by constraints, and the positions that they determine, are computed
// by the formulas of the chapter, in the same order.
func TestPlacedFormulas(t *testing.T) {
	t.Parallel()
	all := sample.Constraints(4)
	results, refusals := map[int]int{}, map[int]int{}
	for i, s := range sample.Extensions() {
		u := sample.Tower(s.Text)
		for k, length := range lengths {
			for n := range 80 / weight(u) {
				seed := uint64(i)<<30 + uint64(k)<<20 + uint64(n)
				elements, random := numbersOf(s, length, seed), choices(12, seed)
				b := placement{u, map[int][2][]api.Ratio{}}
				for p := range 4 {
					b.points[p] = [2][]api.Ratio{elements[int(random[p])%len(elements)], elements[int(random[p+4])%len(elements)]}
				}
				c := all[(int(random[8])<<8+int(random[9]))%len(all)]
				p := sample.Indices(c)[int(random[10])%len(sample.Indices(c))]
				if c.Kind == api.CPerpendicular && !sample.IsLocus(c, p) {
					continue
				}
				if b.checkPlaced(t, c, p) == refused {
					refusals[c.Kind]++
				} else {
					results[c.Kind]++
				}
			}
		}
	}
	for kind := api.CFix; kind <= api.CEqual; kind++ {
		canBeTooLarge := kind >= api.COnLine
		if results[kind] < 50 || canBeTooLarge && refusals[kind] < 30 {
			t.Errorf("constraints of the kind %d: %d results, %d refusals", kind, results[kind], refusals[kind])
		}
	}
}

// wantCrossing returns a text of the intersection of two loci in the tower u.
func wantCrossing(u api.Tower, first solve.Locus, second solve.Locus) string {
	s := scope{sample.ScopeOf(u)}
	for i, l := range []solve.Locus{first, second} {
		names := []string{"u", "v", "R"}
		if l.IsLine {
			names = []string{"a", "b", "c"}
		}
		for k, name := range names {
			s.Values[name+"12"[i:i+1]] = l.Numbers[k]
			s.Values[name] = l.Numbers[k]
		}
	}
	var found intersection
	switch {
	case first.IsLine && second.IsLine:
		found = s.lines()
	case first.IsLine || second.IsLine:
		found = s.lineAndCircle()
	default:
		found = s.circles()
	}
	if len(found.points) == 0 {
		return "none"
	}
	return solutionText(api.Solution{Tower: found.tower, Points: found.points})
}

// checkCrossing checks the intersection of two loci in the tower u, and returns the
// outcome.
func checkCrossing(t *testing.T, u api.Tower, first solve.Locus, second solve.Locus) string {
	t.Helper()
	want := sample.Calculated(api.ErrSolve, func() string { return wantCrossing(u, first, second) })
	got := "none"
	if x, err := solve.CrossingOf(u, first, second); err != api.OK || len(x.Points) > 0 {
		got = sample.Outcome(solutionText(x), x.Points == nil && x.Tower.Radicands == nil, err)
	}
	if got != want {
		t.Errorf("%+v and %+v in %v: %s instead of %s", first, second, u, got, want)
	}
	return got
}

// P11.1: intersections are computed by the formulas of the chapter, in the same order.
func TestCrossingFormulas(t *testing.T) {
	t.Parallel()
	counts := map[string]int{}
	for i, s := range sample.Extensions() {
		u := sample.Tower(s.Text)
		for k, length := range lengths {
			for n := range 180 / weight(u) {
				seed := uint64(i)<<30 + uint64(k)<<20 + uint64(n)
				elements, random := numbersOf(s, length, seed), choices(8, seed)
				var loci [2]solve.Locus
				for which := range loci {
					loci[which].IsLine = random[6]>>which&1 == 1
					for m := range 3 {
						loci[which].Numbers[m] = elements[int(random[3*which+m])%len(elements)]
					}
				}
				outcome := checkCrossing(t, u, loci[0], loci[1])
				counts[strings.Fields(outcome)[0]]++
				counts["all"]++
			}
		}
	}
	if points := counts["all"] - counts["none"] - counts["error"]; slices.Min([]int{points, counts["none"], counts["error"]}) < 200 {
		t.Errorf("%d crossings, %d without points, %d refusals", points, counts["none"], counts["error"])
	}
}

// P11.1: numbers of 200 digits, so that a sum is too large on the way to a smaller one.
func TestSums(t *testing.T) {
	zero, one := sample.Numbers("0"), sample.Numbers("1")
	most, least := sample.Numbers("9"+strings.Repeat("0", 199)), sample.Numbers("-9"+strings.Repeat("0", 199))
	// With the squares of left and right, which have 200 digits, more is too large.
	left, right := sample.Numbers("99"+strings.Repeat("0", 98)), sample.Numbers("99"+strings.Repeat("0", 97)+"1")
	more, less := sample.Numbers("2"+strings.Repeat("0", 199)), sample.Numbers("-2"+strings.Repeat("0", 199))
	circle := func(u []api.Ratio, square []api.Ratio) solve.Locus {
		return solve.Locus{Numbers: [3][]api.Ratio{u, zero, square}}
	}
	for i, c := range []struct {
		first, second solve.Locus
		isRefused     bool
	}{
		{circle(left, more), circle(right, more), false},
		{circle(right, more), circle(left, more), false},
		{circle(left, less), circle(right, less), true},
		{circle(left, one), circle(right, one), false},
	} {
		if got := checkCrossing(t, api.Tower{}, c.first, c.second); (got == refused) != c.isRefused {
			t.Errorf("%d: %s", i, got)
		}
	}
	half := api.Constraint{Kind: api.CMidpoint, Q: 1, R: 2}
	for i, c := range []struct {
		q, r      []api.Ratio
		isRefused bool
	}{{most, least, false}, {most, most, true}, {least, least, true}, {most, one, false}} {
		b := placement{points: map[int][2][]api.Ratio{0: {zero, zero}, 1: {c.q, zero}, 2: {c.r, one}}}
		if got := b.checkPlaced(t, half, 0); (got == refused) != c.isRefused {
			t.Errorf("%d: %s", i, got)
		}
		b.points[1], b.points[2] = [2][]api.Ratio{one, c.q}, [2][]api.Ratio{zero, c.r}
		if got := b.checkPlaced(t, half, 0); (got == refused) != c.isRefused {
			t.Errorf("%d: %s", i, got)
		}
	}
}

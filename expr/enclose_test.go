package expr_test

import (
	"slices"
	"testing"

	"workpiece/api"
	"workpiece/enclosure"
	"workpiece/expr"
	"workpiece/rational"
	"workpiece/sample"
)

// changedRanges returns intervals whose ends have up to so many digits, and of
// which many are points.
func changedRanges(count int, length int, seed uint64) []api.Interval {
	ends := sample.Fractions(2*count, length, seed)
	var out []api.Interval
	for i := range count {
		x := api.Interval{Lo: ends[2*i], Hi: ends[2*i+1]}
		switch {
		case (uint64(i)+seed)%3 == 0:
			x.Hi = x.Lo
		case rational.Compare(x.Lo, x.Hi) > 0:
			x.Lo, x.Hi = x.Hi, x.Lo
		}
		out = append(out, x)
	}
	return out
}

// wantSpan returns the outcome of Enclose of the valid expression e, as the
// chapter defines it.
func wantSpan(e api.Expr, ranges []api.Interval) string {
	x, ok := defined(e, enclosure.Point, func(i int) api.Interval { return ranges[i] }, enclosure.Add, enclosure.Sub, enclosure.Mul, enclosure.Div)
	if !ok {
		return refused
	}
	return rational.Print(x.Lo) + " " + rational.Print(x.Hi)
}

// P8.1: the interval, or that there is none, as the chapter defines it.
func TestEnclose(t *testing.T) {
	results, refusals := 0, 0
	large := maker{params: mixed(), numbers: largeConstants(), shared: true}
	for i, e := range append(expressions(1200, true, 30), expressions(800, false, 31)...) {
		lists := [][]api.Interval{rangesOf(mixed()), changedRanges(8, 2, uint64(i))}
		if i%4 == 0 {
			e = large.expression(2+i%7, uint64(i)<<16)
			lists = append(lists, changedRanges(8, 100, uint64(i)))
		}
		for _, ranges := range lists {
			want := wantSpan(e, ranges)
			if got := spanOutcome(expr.Enclose(e, mixed(), ranges)); got != want {
				t.Errorf("Enclose(%s) = %s instead of %s", nodesText(e), got, want)
			}
			if want == refused {
				refusals++
			} else {
				results++
			}
		}
	}
	if results < 2000 || refusals < 300 {
		t.Errorf("%d results, %d refusals", results, refusals)
	}
}

// P8.1: intervals by hand, also such as are not the smallest ones.
func TestEncloseKnown(t *testing.T) {
	for i, c := range []struct{ s, first, second, want string }{
		{"(p0 - p0)", "4 8", "1 3", "-4 4"}, {"(p0 * p0)", "-2 3", "1 3", "-6 9"}, {"(p0 / p1)", "-2 3", "1/2 4", "-4 6"}, {"(p0 / p1)", "1 1", "-1 1", refused}, {"(p0 / p1)", "1 1", "0 1", refused}, {"(p0 / p1)", "1 1", "-1 0", refused}, {"(p0 / (p1 - p1))", "1 1", "1 3", refused},
		{"3m", "4 8", "1 3", "3 3"}, {"p1", "4 8", "-9 -8", "-9 -8"}, {"(0 * p0)", "4 8", "1 3", "0 0"}, {"((p1 * p1) - (p1 / 2))", "0 0", "1 3", "-1/2 17/2"},
	} {
		e := parsed(c.s, pair())
		if got := spanOutcome(expr.Enclose(e, pair(), spans(c.first+" "+c.second))); got != c.want {
			t.Errorf("%d: Enclose(%s) = %s", i, c.s, got)
		}
	}
}

// P8.1: there must be a valid interval for each parameter, whether the expression
// needs it or not.
func TestEncloseRanges(t *testing.T) {
	for _, e := range []api.Expr{of(constant("1", 0)), of(parameter(0)), of(parameter(1))} {
		lists := [][]api.Interval{nil, {}, spans("1 2"), spans("1 2 1 2 1 2"), slices.Repeat(spans("1 2"), 8), slices.Repeat(spans("1 2"), 1<<16), spans("2 1 1 2"), spans("1 2 2 1"), spans("1 2 1/2 1/3")}
		for _, r := range sample.InvalidFractions() {
			for _, x := range []api.Interval{{Lo: r, Hi: number("1")}, {Lo: number("1"), Hi: r}, {Lo: r, Hi: r}} {
				lists = append(lists, []api.Interval{x, spans("1 2")[0]}, []api.Interval{spans("1 2")[0], x})
			}
		}
		for _, ranges := range lists {
			if got := spanOutcome(expr.Enclose(e, pair(), ranges)); got != refused {
				t.Errorf("Enclose with %.100q: %s", ranges, got)
			}
		}
	}
	if got := spanOutcome(expr.Enclose(of(constant("-7/2", 3)), nil, nil)); got != "-7/2 -7/2" {
		t.Errorf("without parameters: %s", got)
	}
}

// within returns a value in each of the intervals: one of the ends, or what lies
// at one of the quarters between them.
func within(ranges []api.Interval, seed uint64) []api.Ratio {
	places := sample.Bytes(len(ranges), seed)
	var out []api.Ratio
	for i, x := range ranges {
		width, _ := rational.Sub(x.Hi, x.Lo)
		part, _ := rational.Of(int(places[i])%5, 4)
		part, _ = rational.Mul(part, width)
		v, err := rational.Add(x.Lo, part)
		if err != api.OK {
			v = x.Hi
		}
		out = append(out, v)
	}
	return out
}

// P8.2: an interval contains the values for all values in the given intervals.
func TestContainment(t *testing.T) {
	compared := 0
	for i, e := range append(expressions(480, true, 40), expressions(360, false, 41)...) {
		for _, ranges := range [][]api.Interval{rangesOf(mixed()), changedRanges(8, 2, uint64(i)), changedRanges(8, 1, uint64(i)+5)} {
			x, err := expr.Enclose(e, mixed(), ranges)
			if err != api.OK {
				continue
			}
			for seed := range 4 {
				values := within(ranges, uint64(i*4+seed))
				r, err := expr.Eval(e, mixed(), values)
				if err != api.OK {
					continue
				}
				compared++
				if !enclosure.Contains(x, r) {
					t.Errorf("%s: the value %s is not from %s to %s", nodesText(e), rational.Print(r), rational.Print(x.Lo), rational.Print(x.Hi))
				}
			}
		}
	}
	if compared < 4000 {
		t.Errorf("only %d values are compared", compared)
	}
}

// P8.2: of points, the interval is the value.
func TestContainmentOfPoints(t *testing.T) {
	for i, e := range expressions(500, true, 42) {
		values := changedValues(8, 2, uint64(i))
		var ranges []api.Interval
		for _, r := range values {
			ranges = append(ranges, enclosure.Point(r))
		}
		r, err := expr.Eval(e, mixed(), values)
		x, errEnclose := expr.Enclose(e, mixed(), ranges)
		if (err == api.OK) != (errEnclose == api.OK) || x.Lo != r || x.Hi != r {
			t.Errorf("%s: %s and %s", nodesText(e), numberOutcome(r, err), spanOutcome(x, errEnclose))
		}
	}
}

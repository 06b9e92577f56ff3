package arrange_test

import (
	"strconv"
	"testing"

	"workpiece/api"
	"workpiece/arrange"
	"workpiece/sample"
)

// P14.1: the positions of the events of curves whose crossings are known.
func TestPositionKnown(t *testing.T) {
	for _, c := range []struct {
		curves          string
		one, two, which int
		want            string
	}{
		{"circle 0 0 4; line -1 1 0", 0, 1, 1, "8; 0 1/2"}, {"circle 0 0 4; line -1 1 0", 0, 1, 0, "8; 0 -1/2"}, {"circle 0 0 4; line -1 1 0", 0, 0, 0, "4; 0 -1"}, {"circle 0 0 4; line -1 1 0", 0, 0, 1, "4; 0 1"}, {"line -1 1 0; circle 0 0 4", 0, 1, 1, "8; 0 1/2"},
		{"line 1 0 3", 0, 0, 0, "3"}, {"line -1 0 1/2", 0, 0, 0, "-1/2"}, {"line 1 1 2; line 1 -1 1", 0, 1, 0, "3/2"}, {"line 0 1 2; line 1 -3 1", 0, 1, 0, "7"}, {"line 1 -3 1; line 0 1 2", 0, 1, 0, "7"},
		{"circle 1 2 3", 0, 0, 0, "3; 1 -1"}, {"circle 1 2 3", 0, 0, 1, "3; 1 1"}, {"line 0 1 0; circle 1 2 3; circle 5 6 7", 2, 2, 1, "7; 5 1"},
		{"circle 0 0 4; line 0 1 2", 0, 1, 0, "0"}, {"circle 3 1 4; line 0 1 3", 0, 1, 0, "3"}, {"circle 0 0 25; line 1 4/3 25/3", 0, 1, 0, "3"}, {"circle 3 1 4; line 0 1 2", 0, 1, 1, "3; 3 1"}, {"circle 3 1 4; line 0 1 7/2", 0, 1, 1, ""},
		{"circle 0 0 4; circle 2 0 4", 0, 1, 0, "1"}, {"circle 0 0 4; circle 4 0 4", 0, 1, 0, "2"}, {"circle 0 0 9; circle 1 0 1", 0, 1, 0, ""}, {"circle 0 0 9; circle 2 0 1", 0, 1, 0, "3"},
		{"circle 0 0 4; circle 0 2 4", 0, 1, 0, "768; 0 -1/16"}, {"circle 0 0 4; circle 0 2 4", 0, 1, 1, "768; 0 1/16"}, {"circle 0 0 25; circle 8 6 25", 0, 1, 0, "4"}, {"circle 0 0 25; circle 8 6 25", 0, 1, 1, ""},
		// The position of an event that another one hides.
		{"line 1 0 3; line -1 0 -3", 1, 1, 0, "3"}, {"circle 0 0 4; circle 4 0 4", 1, 1, 0, "4; 4 -1"}, {"circle 0 0 4; circle 0 0 4", 1, 1, 0, "4; 0 -1"},
		// There is no such event.
		{"circle 0 0 4; line -1 1 0", 1, 1, 0, ""}, {"circle 0 0 4; line -1 1 0", 1, 0, 0, ""}, {"circle 0 0 4; line -1 1 0", 0, 1, 2, ""}, {"circle 0 0 4; line -1 1 0", 0, 1, -1, ""}, {"circle 0 0 4; line -1 1 0", 0, 2, 0, ""}, {"circle 0 0 4; line -1 1 0", -1, 0, 0, ""}, {"circle 0 0 4; line -1 1 0", -1, -1, 0, ""}, {"circle 0 0 4; line -1 1 0", 2, 2, 0, ""},
		{"circle 0 0 4; line 1 0 2", 0, 1, 0, ""}, {"line 1 0 2; circle 0 0 4", 0, 1, 0, ""}, {"line 1 0 2; line 0 1 1", 0, 1, 0, ""}, {"line 0 1 1; line 1 0 2", 0, 1, 0, ""}, {"line 1 0 2; line 1 0 3", 0, 1, 0, ""}, {"line 0 1 1", 0, 0, 0, ""}, {"line 1 0 2", 0, 0, 1, ""}, {"", 0, 0, 0, ""},
		{"circle 0 0 4; circle 0 0 4", 0, 1, 0, ""}, {"circle 0 0 4; circle 0 0 1", 0, 1, 0, ""}, {"circle 0 0 4; circle 5 0 4", 0, 1, 0, ""}, {"circle 0 0 4; circle 0 5 4", 0, 1, 0, ""},
	} {
		want := refused
		if c.want != "" {
			want = placeOf(c.want).text()
		}
		got := placeOutcome(arrange.Position(sample.CurvesOf(c.curves), api.Event{One: c.one, Two: c.two, Which: c.which}))
		if got != want {
			t.Errorf("Position(%s; %d, %d, %d) = %s instead of %s", c.curves, c.one, c.two, c.which, got, want)
		}
	}
}

// checkPosition checks the position of an event, and returns the outcome.
func checkPosition(t *testing.T, curves []api.Curve, e api.Event) string {
	t.Helper()
	got := placeOutcome(arrange.Position(curves, e))
	want := refused
	if areValid(curves) && e.One >= 0 && e.One <= e.Two && e.Two < len(curves) {
		want = sample.Calculated(api.ErrArrange, func() string {
			list := wantPositions(curves, e.One, e.Two)
			if e.Which < 0 || e.Which >= len(list) {
				return refused
			}
			return list[e.Which].text()
		})
	}
	if got != want {
		t.Errorf("Position(%.900s; %v) = %.900s instead of %.900s", curvesText(curves), e, got, want)
	}
	return got
}

// P14.1: the positions of all events of curves that meet in all ways, and of what is no
// event of them.
func TestPosition(t *testing.T) {
	t.Parallel()
	count := map[bool]int{}
	for _, curves := range lists(200, 5, 21) {
		for one := -1; one <= len(curves); one++ {
			for two := -1; two <= len(curves); two++ {
				for which := -1; which <= 2; which++ {
					count[checkPosition(t, curves, api.Event{One: one, Two: two, Which: which}) == refused]++
				}
			}
		}
		for _, wrong := range []int{1 << 40, -1 << 40, 1<<63 - 1, -1 << 63} {
			checkPosition(t, curves, api.Event{One: wrong, Two: wrong})
			checkPosition(t, curves, api.Event{Two: wrong})
			checkPosition(t, curves, api.Event{One: wrong})
			checkPosition(t, curves, api.Event{Which: wrong})
		}
	}
	if count[true] < 1000 || count[false] < 1000 {
		t.Errorf("%d positions, %d refusals", count[false], count[true])
	}
}

// P14.1: positions are computed by the formulas of the chapter, in the same order, so that
// they are too large for the same curves.
func TestPositionLarge(t *testing.T) {
	t.Parallel()
	count := map[string]int{}
	for _, pair := range largePairs(8000, 22) {
		kinds := strconv.Itoa(pair[0].Kind) + strconv.Itoa(pair[1].Kind)
		for which := range 2 {
			got := checkPosition(t, pair, api.Event{Two: 1, Which: which})
			count[kinds+" "+strconv.FormatBool(got == refused)]++
		}
		checkPosition(t, pair, api.Event{})
	}
	for _, kinds := range []string{"11", "12", "21", "22"} {
		if count[kinds+" false"] < 400 || count[kinds+" true"] < 400 {
			t.Errorf("%s: %d positions, %d refusals", kinds, count[kinds+" false"], count[kinds+" true"])
		}
	}
}

// P14.1: curves that are not valid have no positions, also where the event is one of
// others.
func TestPositionInvalid(t *testing.T) {
	for _, curves := range invalidLists() {
		for one := range 3 {
			for two := range 3 {
				checkPosition(t, curves, api.Event{One: one, Two: two})
			}
		}
	}
	// It does not matter that other events are too large.
	curves := sample.CurvesOf("circle 0 0 4; circle " + sample.Power(150) + " 0 4; line -1 1 0; line 1 " + sample.Power(199) + " " + sample.Nines())
	for _, e := range []api.Event{{}, {Which: 1}, {Two: 2}, {One: 1, Two: 1}} {
		if checkPosition(t, curves, e) == refused {
			t.Errorf("Position(%v) is too large", e)
		}
	}
	for _, e := range []api.Event{{Two: 1}, {One: 1, Two: 2}, {Two: 3}} {
		if checkPosition(t, curves, e) != refused {
			t.Errorf("Position(%v) is not too large", e)
		}
	}
}

// P14.1: numbers for which one order of computation is too large, and another one is not.
func TestPositionLimits(t *testing.T) {
	huge, square := sample.Power(50), sample.Power(100)
	// The squares of far and aside have 200 digits, and their sum has more.
	far, aside, most := "8"+sample.Power(99)[1:], "5"+sample.Power(99)[1:], "9"+sample.Power(199)[1:]
	for _, c := range []struct {
		curves string
		want   string
	}{
		// The line in which two circles touch each other meets the first one.
		{"circle 0 1 1; circle 0 " + huge + " " + square, "0"}, {"circle 0 " + huge + " " + square + "; circle 0 1 1", ""},
		// The sum of two squares is too large before another one is subtracted.
		{"line 0 1 " + far + "; circle " + far + " 0 " + most, ""}, {"line 0 1 " + far + "; circle 0 0 " + most, "26" + sample.Power(198)[1:] + "; 0 -1"}, {"circle -" + aside + " 0 " + most + "; circle " + aside + " 0 1", ""}, {"circle -" + aside + " 0 1; circle " + aside + " 0 1", ""},
	} {
		want := refused
		if c.want != "" {
			want = placeOf(c.want).text()
		}
		if got := checkPosition(t, sample.CurvesOf(c.curves), api.Event{Two: 1}); got != want {
			t.Errorf("Position(%s) = %s instead of %s", c.curves, got, want)
		}
	}
}

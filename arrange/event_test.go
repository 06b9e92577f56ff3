package arrange_test

import (
	"slices"
	"strings"
	"testing"

	"workpiece/api"
	"workpiece/arrange"
	"workpiece/sample"
)

// P14.1: the events of curves whose crossings are known.
func TestEventsKnown(t *testing.T) {
	for _, c := range []struct{ curves, want string }{
		{"", ""},
		{"circle 0 0 4; line -1 1 0", "0,0,0 0,1,0 0,1,1 0,0,1"},
		{"line 1 0 3", "0,0,0"}, {"line -1 0 1/2", "0,0,0"}, {"line 0 1 3", ""}, {"line 1 2 3", ""}, {"circle 1 2 3", "0,0,0 0,0,1"},
		{"line 1 0 3; line 1 0 1; line -1 0 -2", "1,1,0 2,2,0 0,0,0"}, {"line 1 0 3; line -1 0 -3", "0,0,0"},
		{"line 1 0 3; line 1 1 1; line 0 1 0", "1,2,0 0,0,0"}, {"line 1 0 1; line 1 1 1; line 0 1 0", "0,0,0"},
		{"line 1 1 0; line 1 1 5; line -1 -1 3", ""}, {"line 1 1 5; line -1 -1 -5", ""}, {"line 1 1 5; line 1 1 5", ""}, {"line 0 1 0; line 0 1 1; line 1 -1 0", "0,2,0 1,2,0"},
		{"line 1 1 2; line 1 -1 0; line 0 1 1; line 1 3 4", "0,1,0"},
		{"circle 0 0 4; line 0 1 2", "0,0,0 0,1,0 0,0,1"}, {"circle 0 0 4; line 0 1 3", "0,0,0 0,0,1"}, {"line 0 1 0; circle 0 0 4", "0,1,0 0,1,1"}, {"circle 0 0 4; line 0 1 0", "0,0,0 0,0,1"},
		{"circle 0 0 4; line 1 0 2", "0,0,0 0,0,1"}, {"line 1 0 2; circle 0 0 4", "1,1,0 0,0,0"}, {"line 1 0 1; circle 0 0 4", "1,1,0 0,0,0 1,1,1"},
		{"circle 0 0 25; line 1 4/3 25/3", "0,0,0 0,1,0 0,0,1"}, {"circle 0 0 25; line 1 4/3 9", "0,0,0 0,0,1"}, {"circle 0 0 25; line 1 4/3 8", "0,0,0 0,1,0 0,1,1 0,0,1"},
		{"circle 0 0 4; circle 2 0 4", "0,0,0 1,1,0 0,1,0 0,0,1 1,1,1"}, {"circle 0 0 4; circle 4 0 4", "0,0,0 0,0,1 1,1,1"}, {"circle 0 0 4; circle 5 0 4", "0,0,0 0,0,1 1,1,0 1,1,1"}, {"circle 0 0 9; circle 1 0 1", "0,0,0 1,1,0 1,1,1 0,0,1"},
		{"circle 0 0 9; circle 2 0 1", "0,0,0 1,1,0 0,0,1"}, {"circle 2 0 1; circle 0 0 9", "1,1,0 0,0,0 0,0,1"}, {"circle 0 0 4; circle 0 0 1", "0,0,0 1,1,0 1,1,1 0,0,1"}, {"circle 0 0 4; circle 0 0 4", "0,0,0 0,0,1"},
		{"circle 0 0 1; circle 0 2 1", "0,0,0 0,1,0 0,0,1"}, {"circle 0 0 4; circle 0 1 1", "0,0,0 1,1,0 0,1,0 1,1,1 0,0,1"}, {"circle 0 0 4; circle 0 2 4", "0,0,0 0,1,0 0,1,1 0,0,1"}, {"circle 0 0 1; circle 0 3 1", "0,0,0 0,0,1"},
		{"circle 0 0 2; circle 1 1 2", "0,0,0 1,1,0 0,1,0 0,1,1 0,0,1 1,1,1"}, {"circle 0 0 25; circle 8 6 25", "0,0,0 1,1,0 0,1,0 0,0,1 1,1,1"}, {"circle 0 0 100; circle 3 4 25", "0,0,0 1,1,0 0,1,0 1,1,1 0,0,1"},
		{"circle 0 0 4; line -1 1 0; circle 0 0 2", "0,0,0 0,1,0 1,2,0 1,2,1 0,1,1 0,0,1"}, {"circle 0 0 2; circle 0 0 4; line -1 1 0", "1,1,0 0,0,0 0,2,0 0,2,1 0,0,1 1,1,1"},
		{"circle 0 0 2; line 0 1 0; circle 0 5 2; line 0 1 5", "0,0,0 0,0,1"}, {"line 1 0 0; circle 1 0 1; circle -1 0 1", "2,2,0 0,0,0 1,1,1"},
	} {
		got := eventsOutcome(arrange.Events(sample.CurvesOf(c.curves)))
		if strings.TrimSpace(got) != c.want {
			t.Errorf("Events(%s) = %s instead of %s", c.curves, got, c.want)
		}
	}
}

// checkEvents checks the events of curves, and returns the outcome.
func checkEvents(t *testing.T, curves []api.Curve) string {
	t.Helper()
	got := eventsOutcome(arrange.Events(curves))
	if !areValid(curves) {
		if got != refused {
			t.Errorf("Events(%.300s) = %s", curvesText(curves), got)
		}
		return got
	}
	var places []place
	want := sample.Calculated(api.ErrArrange, func() string {
		for _, e := range allEvents(curves) {
			places = append(places, e.place)
		}
		var list []api.Event
		for _, e := range wantEvents(curves) {
			list = append(list, e.Event)
		}
		return eventsText(list)
	})
	if got != want {
		if always, _ := sortable(places); want == refused || got != refused || always {
			t.Errorf("Events(%s) = %s instead of %s", curvesText(curves), got, want)
		}
	} else if _, never := sortable(places); want != refused && never {
		t.Errorf("Events(%s) = %s instead of %s", curvesText(curves), got, refused)
	}
	return got
}

// P14.1: the events of curves that meet in all ways, and of random ones.
func TestEvents(t *testing.T) {
	t.Parallel()
	coincident := 0
	for _, curves := range lists(300, 6, 11) {
		got := checkEvents(t, curves)
		if got == refused {
			t.Errorf("Events(%s) = %s", curvesText(curves), got)
		}
		if strings.Count(got, " ") < len(allEvents(curves)) {
			coincident++
		}
	}
	if coincident < 50 {
		t.Errorf("only %d lists have events with equal positions", coincident)
	}
}

// P14.1: the events of curves with large numbers.
func TestEventsLarge(t *testing.T) {
	t.Parallel()
	count := map[bool]int{}
	for _, curves := range largeLists(1200, 4, 12) {
		count[checkEvents(t, curves) == refused]++
	}
	if count[true] < 300 || count[false] < 300 {
		t.Errorf("%d lists are too large, %d are not", count[true], count[false])
	}
}

// P14.1: two circles that touch each other, of which one is so large that their line can
// meet only the other one.
func TestEventsLimits(t *testing.T) {
	small, large := "circle 0 1 1", "circle 0 "+sample.Power(50)+" "+sample.Power(100)
	for _, c := range []struct{ curves, want string }{{small + ";" + large, "1,1,0 0,0,0 0,1,0 0,0,1 1,1,1 "}, {large + ";" + small, refused}} {
		if got := checkEvents(t, sample.CurvesOf(c.curves)); got != c.want {
			t.Errorf("Events(%s) = %s instead of %s", c.curves, got, c.want)
		}
	}
}

// P14.1: curves that are not valid, and too many of them.
func TestEventsInvalid(t *testing.T) {
	for _, curves := range invalidLists() {
		checkEvents(t, curves)
	}
	// All of 20 curves are lines through different points of the x axis.
	var most []api.Curve
	for i := range 20 {
		most = append(most, api.Curve{Kind: api.KLine, A: number("1"), B: sample.Fraction("1", sample.Digits(1+i/3, uint64(i))), C: sample.Fraction(sample.Digits(2, uint64(i)), "7")})
	}
	checkEvents(t, most)
	if got := eventsOutcome(arrange.Events(most)); strings.Count(got, " ") < 100 {
		t.Errorf("20 lines: %s", got)
	}
	if got := eventsOutcome(arrange.Events(append(most, most[0]))); got != refused {
		t.Errorf("21 lines: %s", got)
	}
	if got := eventsOutcome(arrange.Events(slices.Repeat(most[:1], 20))); got != "" {
		t.Errorf("20 equal lines: %s", got)
	}
}

// P14.1: of all events with equal positions, the first one is returned, whatever the order
// of the curves is.
func TestEventsOrder(t *testing.T) {
	t.Parallel()
	for _, curves := range sample.Arrangements() {
		for seed := range 6 {
			checkEvents(t, sample.Reordered(curves, sample.Shuffled(len(curves), uint64(seed)<<10)))
		}
	}
}

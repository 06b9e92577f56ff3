package arrange_test

import (
	"fmt"
	"math/big"
	"slices"
	"strconv"
	"strings"

	"workpiece/api"
	"workpiece/rational"
	"workpiece/region"
	"workpiece/sample"
	"workpiece/tower"
)

// refused is the outcome of a call that returns ErrArrange.
var refused = sample.Failure(api.ErrArrange)

// curvesText returns a text of curves.
func curvesText(curves []api.Curve) string {
	out := ""
	for _, c := range curves {
		kind := map[int]string{api.KLine: "line", api.KCircle: "circle"}[c.Kind]
		out += fmt.Sprintf("%s %s %s %s; ", kind, rational.Print(c.A), rational.Print(c.B), rational.Print(c.C))
	}
	return out
}

// eventsText returns a text of events.
func eventsText(list []api.Event) string {
	out := ""
	for _, e := range list {
		out += fmt.Sprintf("%d,%d,%d ", e.One, e.Two, e.Which)
	}
	return out
}

// eventsOutcome returns the text of what Events returns.
func eventsOutcome(list []api.Event, err api.Errno) string {
	return sample.Outcome(eventsText(list), len(list) == 0, err)
}

// cellsText returns a text of cells.
func cellsText(list []api.Cell) string {
	out := ""
	for _, c := range list {
		out += fmt.Sprintf("%d.%d (%s, %s) ", c.Strip, c.Index, rational.Print(c.X), rational.Print(c.Y))
	}
	return out
}

// cellsOutcome returns the text of what Cells returns.
func cellsOutcome(list []api.Cell, err api.Errno) string {
	return sample.Outcome(cellsText(list), len(list) == 0, err)
}

// indexOutcome returns the text of what Border or Locate returns.
func indexOutcome(i int, err api.Errno) string {
	return sample.Outcome(strconv.Itoa(i), i == 0, err)
}

// decision returns the text of what Equal, Within or Empty returns.
func decision(holds bool, x, y api.Ratio, err api.Errno) string {
	text := fmt.Sprintf("%t %v %v", holds, x, y)
	return sample.Outcome(text, text == "false { } { }", err)
}

// A place is an element of a tower of level 0 or 1: the position of an event, or an
// ordinate.
type place struct {
	tower   api.Tower
	element []api.Ratio
}

// text returns a text of p.
func (p place) text() string { return fmt.Sprintf("%v %v", p.tower.Radicands, p.element) }

// placeOutcome returns the text of what Position returns.
func placeOutcome(t api.Tower, element []api.Ratio, err api.Errno) string {
	return sample.Outcome(place{t, element}.text(), len(t.Radicands) == 0 && len(element) == 0, err)
}

// compared returns the sign of u minus v, as the chapter defines it.
func compared(u, v place) int {
	t := api.Tower{}
	for _, d := range slices.Concat(u.tower.Radicands, v.tower.Radicands) {
		t = sample.Needed(tower.Extend(t, sample.Needed(tower.Embed(t, d))))
	}
	x := sample.Needed(tower.Embed(t, u.element))
	y := sample.Needed(tower.FromRatio(t, v.element[0]))
	if len(v.element) == 2 {
		factor := sample.Needed(tower.FromRatio(t, v.element[1]))
		y = sample.Needed(tower.Add(t, y, sample.Needed(tower.Mul(t, factor, sample.Needed(tower.Root(t))))))
	}
	return sample.Needed(tower.Sign(t, sample.Needed(tower.Sub(t, x, y))))
}

// canCompare reports whether u and v can be compared in one of the two orders, and
// whether they can be in both.
func canCompare(u, v place) (bool, bool) {
	try := func(u, v place) bool {
		return sample.Calculated(api.ErrArrange, func() string { return strconv.Itoa(compared(u, v)) }) != refused
	}
	one, other := try(u, v), try(v, u)
	return one || other, one && other
}

// precision is with how many bits real numbers are calculated. Numbers whose difference
// is less than half of these bits can tell are taken for equal.
const precision = 8000

// realOf returns the real number r.
func realOf(r api.Ratio) *big.Float {
	value, ok := new(big.Rat).SetString(r.Num + "/" + r.Den)
	if !ok {
		panic("not a fraction: " + r.Num + "/" + r.Den)
	}
	return new(big.Float).SetPrec(precision).SetRat(value)
}

// real returns the real number that is the value of p.
func (p place) real() *big.Float {
	sum := realOf(p.element[0])
	if len(p.element) == 2 {
		root := new(big.Float).SetPrec(precision).Sqrt(realOf(p.tower.Radicands[0][0]))
		sum.Add(sum, root.Mul(root, realOf(p.element[1])))
	}
	return sum
}

// order returns the sign of x minus y.
func order(x, y *big.Float) int {
	difference := new(big.Float).SetPrec(precision).Sub(x, y)
	if difference.Sign() == 0 || difference.MantExp(nil) < -precision/2 {
		return 0
	}
	return difference.Sign()
}

// one returns the place with the value of a formula.
func one(s sample.Scope, formula string) []place { return []place{{element: s.Value(formula)}} }

// pair returns the places with a radicand, the first coefficient center, and the second
// one less or greater.
func pair(s sample.Scope, radicand, center, less, greater string) []place {
	var out []place
	for _, second := range []string{less, greater} {
		t := api.Tower{Radicands: [][]api.Ratio{s.Value(radicand)}}
		out = append(out, place{t, slices.Concat(s.Value(center), s.Value(second))})
	}
	return out
}

// name gives the numbers of c their names in s: a, b and c of a line, and p, q and R of
// a circle, with a suffix.
func name(s sample.Scope, c api.Curve, suffix string) {
	names := []string{"a", "b", "c"}
	if c.Kind == api.KCircle {
		names = []string{"p", "q", "R"}
	}
	for i, r := range []api.Ratio{c.A, c.B, c.C} {
		s.Values[names[i]+suffix] = []api.Ratio{r}
	}
}

// wantPositions returns the positions of the events of the curves i and k, which are not
// too large.
func wantPositions(curves []api.Curve, i, k int) []place {
	left, right := curves[i], curves[k]
	s := sample.ScopeOf(api.Tower{})
	name(s, left, "")
	isLine := func(c api.Curve) bool { return c.Kind == api.KLine }
	isVertical := func(c api.Curve) bool { return isLine(c) && c.B.Num == "0" }
	switch {
	case i == k && isVertical(left):
		return one(s, "c / a")
	case i == k && isLine(left), i != k && (isVertical(left) || isVertical(right)):
		return nil
	case i == k:
		return pair(s, "R", "p", "-1", "1")
	case isLine(left) && isLine(right):
		name(s, right, "'")
		s.Let("d", "a * b' - a' * b")
		if s.Sign("d") == 0 {
			return nil
		}
		return one(s, "(c * b' - c' * b) / (a * b' - a' * b)")
	case isLine(left) || isLine(right):
		name(s, right, "")
		return wantLineAndCircle(s)
	}
	name(s, right, "'")
	return wantCircles(s)
}

// wantLineAndCircle returns the positions of the events of the line (a, b, c) and the
// circle (p, q, R).
func wantLineAndCircle(s sample.Scope) []place {
	s.Let("m k h D", "a * a + b * b", "c - q * b", "b * b * p + a * k", "h * h - m * (b * b * p * p + k * k - R * b * b)")
	switch s.Sign("D") {
	case -1:
		return nil
	case 0:
		return one(s, "h / m")
	}
	return pair(s, "D", "h / m", "-1 / m", "1 / m")
}

// wantCircles returns the positions of the events of the circles (p, q, R) and (p', q',
// R').
func wantCircles(s sample.Scope) []place {
	if s.Values["p"][0] == s.Values["p'"][0] && s.Values["q"][0] == s.Values["q'"][0] {
		return nil
	}
	s.Let("a b c", "2 * (p' - p)", "2 * (q' - q)", "R - R' + p' * p' - p * p + q' * q' - q * q")
	if s.Sign("b") != 0 {
		return wantLineAndCircle(s)
	}
	s.Let("square", "(c / a - p) * (c / a - p)")
	if rational.Compare(s.Values["square"][0], s.Values["R"][0]) > 0 {
		return nil
	}
	return one(s, "c / a")
}

// A wanted event has a position.
type wantedEvent struct {
	api.Event
	place
}

// allEvents returns all events of curves, by One, Two and Which.
func allEvents(curves []api.Curve) []wantedEvent {
	var out []wantedEvent
	for i := range curves {
		for k := i; k < len(curves); k++ {
			for which, p := range wantPositions(curves, i, k) {
				out = append(out, wantedEvent{api.Event{One: i, Two: k, Which: which}, p})
			}
		}
	}
	return out
}

// ascending returns the items in the order of their places; of those with equal ones,
// only the first one.
func ascending[T any](list []T, placeOf func(item T) place) []T {
	type valued struct {
		item T
		real *big.Float
	}
	var all []valued
	for _, item := range list {
		all = append(all, valued{item, placeOf(item).real()})
	}
	slices.SortStableFunc(all, func(a, b valued) int { return order(a.real, b.real) })
	all = slices.CompactFunc(all, func(a, b valued) bool { return order(a.real, b.real) == 0 })
	var out []T
	for _, v := range all {
		out = append(out, v.item)
	}
	return out
}

// wantEvents returns the events of curves in the order of their positions.
func wantEvents(curves []api.Curve) []wantedEvent {
	return ascending(allEvents(curves), func(e wantedEvent) place { return e.place })
}

// areValid reports whether the curves are valid, and not too many.
func areValid(curves []api.Curve) bool {
	return len(curves) <= 20 && !slices.ContainsFunc(curves, func(c api.Curve) bool { return !sample.IsCurve(c) })
}

// wantBetween returns the fraction between u and v.
func wantBetween(u, v place) api.Ratio {
	s := sample.ScopeOf(api.Tower{})
	s.Values["s"] = []api.Ratio{sample.Needed(tower.Enclose(u.tower, u.element, 0)).Lo}
	s.Values["t"] = []api.Ratio{sample.Needed(tower.Enclose(v.tower, v.element, 0)).Hi}
	for {
		middle := s.Value("(s + t) / 2")
		toU, toV := compared(place{element: middle}, u), compared(place{element: middle}, v)
		if toU > 0 && toV < 0 {
			return middle[0]
		}
		if toU <= 0 {
			s.Values["s"] = middle
		} else {
			s.Values["t"] = middle
		}
	}
}

// wantSamples returns the fractions below, between and above the places.
func wantSamples(list []place) []api.Ratio {
	if len(list) == 0 {
		return sample.Numbers("0")
	}
	s := sample.ScopeOf(api.Tower{})
	first, last := list[0], list[len(list)-1]
	s.Values["s"] = []api.Ratio{sample.Needed(tower.Enclose(first.tower, first.element, 0)).Lo}
	s.Values["t"] = []api.Ratio{sample.Needed(tower.Enclose(last.tower, last.element, 0)).Hi}
	out := s.Value("s - 1")
	for i := 1; i < len(list); i++ {
		out = append(out, wantBetween(list[i-1], list[i]))
	}
	return append(out, s.Value("t + 1")...)
}

// wantOrdinates returns the ordinates of curves at x, by their indices.
func wantOrdinates(curves []api.Curve, x api.Ratio) []place {
	var out []place
	for _, c := range curves {
		s := sample.ScopeOf(api.Tower{})
		name(s, c, "")
		s.Values["x"] = []api.Ratio{x}
		switch {
		case c.Kind == api.KLine && c.B.Num != "0":
			out = append(out, one(s, "(c - a * x) / b")...)
		case c.Kind == api.KCircle && rational.Compare(s.Value("(x - p) * (x - p)")[0], c.C) < 0:
			out = append(out, pair(s, "R - (x - p) * (x - p)", "q", "-1", "1")...)
		}
	}
	return out
}

// wantCells returns the cells of curves, and all places that are sorted for them, list by
// list.
func wantCells(curves []api.Curve) ([]api.Cell, [][]place) {
	placeOf := func(p place) place { return p }
	var positions []place
	for _, e := range allEvents(curves) {
		positions = append(positions, e.place)
	}
	lists := [][]place{positions}
	var out []api.Cell
	for strip, x := range wantSamples(ascending(positions, placeOf)) {
		ordinates := wantOrdinates(curves, x)
		lists = append(lists, ordinates)
		for index, y := range wantSamples(ascending(ordinates, placeOf)) {
			out = append(out, api.Cell{X: x, Y: y, Strip: strip, Index: index})
		}
	}
	return out, lists
}

// sortable reports whether a list can surely be sorted, since any two places can be
// compared; and whether it surely cannot, since two that follow each other cannot be.
func sortable(list []place) (bool, bool) {
	always, never := true, false
	for i, u := range list {
		for _, v := range list[:i] {
			_, both := canCompare(u, v)
			always = always && both
		}
	}
	sorted := ascending(list, func(p place) place { return p })
	for i := 1; i < len(sorted); i++ {
		some, _ := canCompare(sorted[i-1], sorted[i])
		never = never || !some
	}
	return always, never
}

// wantSide returns the Side of a point, which must not be too large.
func wantSide(c api.Curve, x, y api.Ratio) int { return sample.Needed(region.Side(c, x, y)) }

// placeOf returns the place with the text s: its radicand, if there is one, and its
// coefficients.
func placeOf(s string) place {
	radicand, element, found := strings.Cut(s, ";")
	if !found {
		return place{element: sample.Numbers(s)}
	}
	return place{sample.Tower(radicand), sample.Numbers(element)}
}

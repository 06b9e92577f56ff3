package poly

import (
	"iter"
	"slices"
	"strings"

	"workpiece/api"
	"workpiece/rational"
)

// squareFree returns the polynomial with the same roots as p, each of them once.
// There is none for zero, which has all numbers as roots.
func (p polynomial) squareFree() polynomial {
	refuseIf(p.isZero())
	s, _ := p.over(gcd(p, p.derivative()))
	return s
}

// sturm returns the Sturm sequence of p. From one number to a greater one, its
// values lose as many changes of sign as p has roots in between.
func sturm(p polynomial) iter.Seq[polynomial] {
	return func(yield func(polynomial) bool) {
		last := p.squareFree()
		next := last.derivative()
		for yield(last) && !next.isZero() {
			_, rest := last.over(next)
			last, next = next, rest.opposite()
		}
	}
}

// collected returns a sequence of what sequence yields, which is calculated only
// once.
func collected(sequence iter.Seq[polynomial]) iter.Seq[polynomial] {
	return slices.Values(slices.Collect(sequence))
}

// An end of an interval is a number, and the signs that the polynomials of a Sturm
// sequence have there.
type end struct {
	number api.Ratio
	signs  []int
}

// endAt returns the end at x.
func endAt(sequence iter.Seq[polynomial], x api.Ratio) end {
	e := end{number: x}
	for p := range sequence {
		e.signs = append(e.signs, rational.Compare(p.at(x), zero))
	}
	return e
}

// isRoot reports whether e is a root of the first polynomial.
func (e end) isRoot() bool { return e.signs[0] == 0 }

// variations returns how often the sign changes from one polynomial to a later
// one, without those that are 0 at e.
func (e end) variations() int {
	changes, last := 0, 0
	for _, sign := range e.signs {
		if sign*last < 0 {
			changes++
		}
		if sign != 0 {
			last = sign
		}
	}
	return changes
}

// rootsBetween returns the number of roots that are greater than lo and at most hi.
func rootsBetween(lo end, hi end) int { return lo.variations() - hi.variations() }

// isolated returns an interval for each root of the first polynomial that is
// greater than lo and at most hi.
func isolated(sequence iter.Seq[polynomial], lo api.Ratio, hi api.Ratio, places int) []api.Interval {
	widest := must(rational.Make("1", "1"+strings.Repeat("0", places)))
	var found []api.Interval
	var examine func(lo end, hi end)
	examine = func(lo end, hi end) {
		roots := rootsBetween(lo, hi)
		if roots == 0 {
			return
		}
		if roots == 1 && rational.Compare(must(rational.Sub(hi.number, lo.number)), widest) <= 0 {
			switch {
			case hi.isRoot():
				found = append(found, api.Interval{Lo: hi.number, Hi: hi.number})
				return
			case !lo.isRoot():
				found = append(found, api.Interval{Lo: lo.number, Hi: hi.number})
				return
			}
			// Another root is at the lower end: the interval must not contain it.
		}
		middle := endAt(sequence, must(rational.Div(must(rational.Add(lo.number, hi.number)), two)))
		examine(lo, middle)
		examine(middle, hi)
	}
	examine(endAt(sequence, lo), endAt(sequence, hi))
	return found
}

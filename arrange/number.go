package arrange

import (
	"iter"
	"slices"

	"workpiece/api"
	"workpiece/tower"
)

// A number is an element of a tower of level 0 or 1.
type number struct {
	api.Tower
	element []api.Ratio
}

// fraction returns the number with the value r.
func fraction(r api.Ratio) number { return number{element: []api.Ratio{r}} }

// around returns the numbers that are less and greater than middle by factor, which is
// positive, times the square root of radicand.
func around(middle, factor, radicand api.Ratio) []number {
	moved := func(by api.Ratio) number {
		return number{api.Tower{Radicands: [][]api.Ratio{{radicand}}}, []api.Ratio{middle, by}}
	}
	return []number{moved(minus(zero, factor)), moved(factor)}
}

// compare returns the sign of n minus other, in the tower that has the root of n, and
// above it that of other.
func (n number) compare(other number) int {
	low := len(n.element)
	size := low * len(other.element)
	t := api.Tower{Radicands: slices.Clone(n.Radicands)}
	for _, d := range other.Radicands {
		t.Radicands = append(t.Radicands, spread(d, 1, low))
	}
	return must(tower.Compare(t, spread(n.element, 1, size), spread(other.element, low, size)))
}

// spread returns size coefficients: those of list, each a step after the one before it,
// and otherwise zeros.
func spread(list []api.Ratio, step int, size int) []api.Ratio {
	out := slices.Repeat([]api.Ratio{zero}, size)
	for i, r := range list {
		out[i*step] = r
	}
	return out
}

// bounds returns integers between which n is.
func (n number) bounds() api.Interval { return must(tower.Enclose(n.Tower, n.element, 0)) }

// between returns a fraction between low and high, of which the first one is less. It
// divides the interval, which must contain both.
func between(low, high number, within api.Interval) api.Ratio {
	for {
		middle := over(plus(within.Lo, within.Hi), two)
		m := fraction(middle)
		fromLow, fromHigh := m.compare(low), m.compare(high)
		switch {
		case fromLow > 0 && fromHigh < 0:
			return middle
		case fromLow <= 0:
			within.Lo = middle
		default:
			within.Hi = middle
		}
	}
}

// samples yields a fraction below the first number of an ascending list, one between
// any two successive ones, and one above the last one; or 0 if there are no numbers.
func samples(list []number) iter.Seq2[int, api.Ratio] {
	return func(yield func(int, api.Ratio) bool) {
		if len(list) == 0 {
			yield(0, zero)
			return
		}
		bounds := each(list, number.bounds)
		last := len(list) - 1
		if !yield(0, minus(bounds[0].Lo, one)) {
			return
		}
		for i := range last {
			within := api.Interval{Lo: bounds[i].Lo, Hi: bounds[i+1].Hi}
			if !yield(i+1, between(list[i], list[i+1], within)) {
				return
			}
		}
		yield(last+1, plus(bounds[last].Hi, one))
	}
}

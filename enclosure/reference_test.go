package enclosure_test

import (
	"math/big"
	"strings"

	"workpiece/api"
	"workpiece/enclosure"
	"workpiece/rational"
	"workpiece/sample"
)

// value returns the value of the valid fraction r.
func value(r api.Ratio) *big.Rat {
	v, ok := new(big.Rat).SetString(r.Num + "/" + r.Den)
	if !ok {
		panic("not a fraction: " + r.Num + "/" + r.Den)
	}
	return v
}

// ofValue returns the fraction with the value v.
func ofValue(v *big.Rat) api.Ratio {
	return api.Ratio{Num: v.Num().String(), Den: v.Denom().String()}
}

// ordered reports whether a is at most b.
func ordered(a, b api.Ratio) bool { return value(a).Cmp(value(b)) <= 0 }

// contains reports whether the valid interval x contains v.
func contains(x api.Interval, v *big.Rat) bool {
	return value(x.Lo).Cmp(v) <= 0 && v.Cmp(value(x.Hi)) <= 0
}

// isInterval reports whether x is valid.
func isInterval(x api.Interval) bool {
	return rational.Valid(x.Lo) && rational.Valid(x.Hi) && ordered(x.Lo, x.Hi)
}

// span returns the interval with the text s: its ends, or the only fraction that
// it contains.
func span(s string) api.Interval {
	ends := strings.Fields(s)
	lo, errLo := rational.Parse(ends[0])
	hi, errHi := rational.Parse(ends[len(ends)-1])
	if errLo != api.OK || errHi != api.OK {
		panic("not an interval: " + s)
	}
	return api.Interval{Lo: lo, Hi: hi}
}

// text returns the text of the interval x.
func text(x api.Interval) string {
	if x.Lo == x.Hi {
		return rational.Print(x.Lo)
	}
	return rational.Print(x.Lo) + " " + rational.Print(x.Hi)
}

// refused is what a function returns together with ErrEnclosure.
const refused = "refused"

// outcome returns the text of a result, or refused if it is a zero value with
// ErrEnclosure.
func outcome(x api.Interval, err api.Errno) string {
	switch {
	case err == api.OK && isInterval(x):
		return text(x)
	case err == api.ErrEnclosure && x == api.Interval{}:
		return refused
	}
	return "a wrong result: " + x.Lo.Num + "/" + x.Lo.Den + " " + x.Hi.Num + "/" + x.Hi.Den
}

// A function of two intervals, with the calculation with fractions that it
// encloses.
type binary struct {
	name     string
	enclosed func(a, b api.Interval) (api.Interval, api.Errno)
	exact    func(a, b api.Ratio) (api.Ratio, api.Errno)
	ofValues func(z, x, y *big.Rat) *big.Rat
}

// calculations returns Add, Sub, Mul and Div.
func calculations() []binary {
	return []binary{
		{"Add", enclosure.Add, rational.Add, (*big.Rat).Add},
		{"Sub", enclosure.Sub, rational.Sub, (*big.Rat).Sub},
		{"Mul", enclosure.Mul, rational.Mul, (*big.Rat).Mul},
		{"Div", enclosure.Div, rational.Div, (*big.Rat).Quo},
	}
}

// want returns what f is to return for the valid intervals a and b: the least and
// the greatest of the results for pairs of ends, of which Add and Sub have only
// those that become the ends.
func (f binary) want(a, b api.Interval) string {
	pairs := [][2]api.Ratio{{a.Lo, b.Lo}, {a.Lo, b.Hi}, {a.Hi, b.Lo}, {a.Hi, b.Hi}}
	switch {
	case f.name == "Add":
		pairs = [][2]api.Ratio{pairs[0], pairs[3]}
	case f.name == "Sub":
		pairs = [][2]api.Ratio{pairs[1], pairs[2]}
	case f.name == "Div" && contains(b, new(big.Rat)):
		return refused
	}
	var out api.Interval
	for i, pair := range pairs {
		if _, err := f.exact(pair[0], pair[1]); err != api.OK {
			return refused
		}
		r := ofValue(f.ofValues(new(big.Rat), value(pair[0]), value(pair[1])))
		if i == 0 || ordered(r, out.Lo) {
			out.Lo = r
		}
		if i == 0 || ordered(out.Hi, r) {
			out.Hi = r
		}
	}
	return text(out)
}

// between returns the intervals between the successive fractions of l, between
// those that are further apart, and those of one fraction.
func between(l []api.Ratio) []api.Interval {
	var out []api.Interval
	for i, r := range l {
		for _, k := range []int{i, i + 1, i + 5, len(l) - 1 - i} {
			if s := l[min(k, len(l)-1)]; ordered(r, s) {
				out = append(out, api.Interval{Lo: r, Hi: s})
			} else {
				out = append(out, api.Interval{Lo: s, Hi: r})
			}
		}
	}
	return out
}

// smalls returns all intervals whose ends have a Num from -most to most and a Den
// from 1 to most.
func smalls(most int) []api.Interval {
	var out []api.Interval
	for _, lo := range sample.SmallFractions(most) {
		for _, hi := range sample.SmallFractions(most) {
			if ordered(lo, hi) {
				out = append(out, api.Interval{Lo: lo, Hi: hi})
			}
		}
	}
	return out
}

// invalid returns intervals that are not valid.
func invalid() []api.Interval {
	out := []api.Interval{
		{Lo: span("2").Lo, Hi: span("1").Lo}, {Lo: span("1/2").Lo, Hi: span("1/3").Lo}, {Lo: span("1").Lo, Hi: span("-1").Lo}, {Lo: span("0").Lo, Hi: span("-1/" + sample.Nines()).Lo},
		{Lo: span(sample.Nines()).Lo, Hi: span(sample.Nines()[:199] + "8").Lo},
	}
	for _, r := range sample.InvalidFractions() {
		for _, valid := range []string{"0", "1", "-1/2"} {
			s := span(valid).Lo
			out = append(out, api.Interval{Lo: r, Hi: s}, api.Interval{Lo: s, Hi: r})
		}
		out = append(out, api.Interval{Lo: r, Hi: r})
	}
	return out
}

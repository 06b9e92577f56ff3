package poly_test

import (
	"slices"
	"testing"

	"workpiece/api"
	"workpiece/poly"
	"workpiece/sample"
)

// marker stands where nothing is to be written to.
var marker = api.Ratio{Num: "marker", Den: "marker"}

// P7.1: no function modifies its arguments or their spare capacity, and nothing
// that is written into a result reaches them, or another result.
func TestMemory(t *testing.T) {
	list := append(small(5, 1), polynomials(5, 3, 2)...)
	for i, p := range list {
		q := list[(i*7+3)%len(list)]
		x, y := sample.Guarded(p, marker), sample.Guarded(q, marker)
		for name, call := range map[string]func() ([]api.Ratio, []api.Ratio){
			"Add":       func() ([]api.Ratio, []api.Ratio) { out, _ := poly.Add(x, y); return out, nil },
			"Add, zero": func() ([]api.Ratio, []api.Ratio) { out, _ := poly.Add(x, nil); return out, nil },
			"Add, to 0": func() ([]api.Ratio, []api.Ratio) { out, _ := poly.Add(nil, x); return out, nil },
			"Sub":       func() ([]api.Ratio, []api.Ratio) { out, _ := poly.Sub(x, y); return out, nil },
			"Sub, zero": func() ([]api.Ratio, []api.Ratio) { out, _ := poly.Sub(x, nil); return out, nil },
			"Mul":       func() ([]api.Ratio, []api.Ratio) { out, _ := poly.Mul(x, y); return out, nil },
			"Mul, by 1": func() ([]api.Ratio, []api.Ratio) { out, _ := poly.Mul(x, parsed("1")); return out, nil },
			"Div":       func() ([]api.Ratio, []api.Ratio) { quotient, rest, _ := poly.Div(x, y); return quotient, rest },
			"Div, by 1": func() ([]api.Ratio, []api.Ratio) {
				quotient, rest, _ := poly.Div(x, parsed("1"))
				return quotient, rest
			},
			"Div, none": func() ([]api.Ratio, []api.Ratio) {
				quotient, rest, _ := poly.Div(x, parsed("1 0 0 0 0 0 0 1"))
				return quotient, rest
			},
			"Gcd":        func() ([]api.Ratio, []api.Ratio) { out, _ := poly.Gcd(x, y); return out, nil },
			"Gcd, both":  func() ([]api.Ratio, []api.Ratio) { out, _ := poly.Gcd(x, x); return out, nil },
			"Gcd, zero":  func() ([]api.Ratio, []api.Ratio) { out, _ := poly.Gcd(x, nil); return out, nil },
			"Gcd, of 0":  func() ([]api.Ratio, []api.Ratio) { out, _ := poly.Gcd(nil, x); return out, nil },
			"Derivative": func() ([]api.Ratio, []api.Ratio) { out, _ := poly.Derivative(x); return out, nil },
			"Valid":      func() ([]api.Ratio, []api.Ratio) { poly.Valid(x); return nil, nil },
			"Eval":       func() ([]api.Ratio, []api.Ratio) { out, _ := poly.Eval(x, number("1/3")); return []api.Ratio{out}, nil },
			"Count":      func() ([]api.Ratio, []api.Ratio) { poly.Count(x, number("-2"), number("2")); return nil, nil },
			"Isolate": func() ([]api.Ratio, []api.Ratio) {
				list, _ := poly.Isolate(x, number("-2"), number("2"), 3)
				var out []api.Ratio
				for _, z := range list {
					out = append(out, z.Lo, z.Hi)
				}
				clear(list[:cap(list)])
				return out, nil
			},
		} {
			first, other := call()
			kept := slices.Clone(first)
			keptOther := slices.Clone(other)
			sample.Spoil(first, api.Ratio{})
			if !slices.Equal(other, keptOther) {
				t.Errorf("the results of %s share memory", name)
			}
			sample.Spoil(other, api.Ratio{})
			second, otherSecond := call()
			if !slices.Equal(kept, second) || !slices.Equal(keptOther, otherSecond) {
				t.Errorf("%s: %s, and then %s", name, text(kept), text(second))
			}
			if !sample.Intact(x, p, marker) || !sample.Intact(y, q, marker) {
				t.Fatalf("%s of %s and %s modifies its arguments", name, text(p), text(q))
			}
		}
	}
}

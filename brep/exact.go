package brep

import (
	"workpiece/api"
	"workpiece/rational"
)

var (
	zero = api.Ratio{Num: "0", Den: "1"}
	two  = api.Ratio{Num: "2", Den: "1"}
)

func plus(left, right api.Ratio) api.Ratio  { return must(rational.Add(left, right)) }
func minus(left, right api.Ratio) api.Ratio { return must(rational.Sub(left, right)) }
func times(left, right api.Ratio) api.Ratio { return must(rational.Mul(left, right)) }
func over(left, right api.Ratio) api.Ratio  { return must(rational.Div(left, right)) }

// isLess reports whether left is less than right.
func isLess(left, right api.Ratio) bool { return rational.Compare(left, right) < 0 }

// absolute returns the absolute value of r.
func absolute(r api.Ratio) api.Ratio {
	if isLess(r, zero) {
		return minus(zero, r)
	}
	return r
}

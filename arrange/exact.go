package arrange

import (
	"workpiece/api"
	"workpiece/rational"
)

var (
	zero = api.Ratio{Num: "0", Den: "1"}
	one  = api.Ratio{Num: "1", Den: "1"}
	two  = api.Ratio{Num: "2", Den: "1"}
)

func plus(left, right api.Ratio) api.Ratio  { return must(rational.Add(left, right)) }
func minus(left, right api.Ratio) api.Ratio { return must(rational.Sub(left, right)) }
func over(left, right api.Ratio) api.Ratio  { return must(rational.Div(left, right)) }

// times returns the product of first and the others, from the left to the right.
func times(first api.Ratio, others ...api.Ratio) api.Ratio {
	for _, other := range others {
		first = must(rational.Mul(first, other))
	}
	return first
}

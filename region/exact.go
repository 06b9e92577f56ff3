package region

import (
	"workpiece/api"
	"workpiece/rational"
)

var (
	zero     = api.Ratio{Num: "0", Den: "1"}
	one      = api.Ratio{Num: "1", Den: "1"}
	minusOne = api.Ratio{Num: "-1", Den: "1"}
)

// An exact calculates with fractions until there is an error. Then it has failed, and
// nothing that it returns means anything.
type exact struct {
	failed bool
}

// given returns a calculation with list, which has failed if one of them is not valid.
func given(list ...api.Ratio) *exact {
	e := &exact{}
	for _, r := range list {
		e.refuseIf(!rational.Valid(r))
	}
	return e
}

// finished returns value, or ErrRegion if e has failed.
func finished[T any](e *exact, value T) (T, api.Errno) {
	if e.failed {
		var none T
		return none, api.ErrRegion
	}
	return value, api.OK
}

// refuseIf makes e fail if condition holds.
func (e *exact) refuseIf(condition bool) { e.failed = e.failed || condition }

// take returns what operate returns, unless e has failed before.
func (e *exact) take(operate func(left, right api.Ratio) (api.Ratio, api.Errno), left, right api.Ratio) api.Ratio {
	if e.failed {
		return api.Ratio{}
	}
	result, err := operate(left, right)
	e.refuseIf(err != api.OK)
	return result
}

func (e *exact) plus(left, right api.Ratio) api.Ratio  { return e.take(rational.Add, left, right) }
func (e *exact) minus(left, right api.Ratio) api.Ratio { return e.take(rational.Sub, left, right) }
func (e *exact) times(left, right api.Ratio) api.Ratio { return e.take(rational.Mul, left, right) }
func (e *exact) over(left, right api.Ratio) api.Ratio  { return e.take(rational.Div, left, right) }

// negated returns 0 minus r.
func (e *exact) negated(r api.Ratio) api.Ratio { return e.minus(zero, r) }

// size returns the absolute value of r.
func (e *exact) size(r api.Ratio) api.Ratio {
	if rational.Compare(r, zero) < 0 {
		return e.negated(r)
	}
	return r
}

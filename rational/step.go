package rational

import (
	"strings"

	"workpiece/api"
	"workpiece/integer"
)

// A step calculates a part of a fraction, or returns an error if it cannot.
type step func() api.Errno

// An operation is a function of two integers, as package integer has them.
type operation func(x string, y string) (string, api.Errno)

// build takes the steps, which set Num and Den of r, and then those that reduce
// r. It returns r, or ErrRational after an error, when it skips what follows.
func build(r *api.Ratio, steps ...step) (api.Ratio, api.Errno) {
	var divisor string
	steps = append(steps,
		into(&divisor, integer.Gcd, &r.Num, &r.Den),
		into(&divisor, withSign, &divisor, &r.Den),
		into(&r.Num, floor, &r.Num, &divisor),
		into(&r.Den, floor, &r.Den, &divisor))
	for _, take := range steps {
		if take() != api.OK {
			return api.Ratio{}, api.ErrRational
		}
	}
	return *r, api.OK
}

// into returns the step that sets result to what operate returns for x and y,
// which earlier steps may have set.
func into(result *string, operate operation, x *string, y *string) step {
	return func() (err api.Errno) {
		*result, err = operate(*x, *y)
		return err
	}
}

// valid returns the step that only checks that all of l are valid.
func valid(l ...api.Ratio) step {
	return func() api.Errno {
		for _, r := range l {
			if !Valid(r) {
				return api.ErrRational
			}
		}
		return api.OK
	}
}

// sum returns the fraction that has, over the product of the Dens of a and b,
// what operate makes of their numerators there.
func sum(a api.Ratio, b api.Ratio, operate operation) (api.Ratio, api.Errno) {
	var left, right string
	var r api.Ratio
	return build(&r,
		valid(a, b),
		into(&left, integer.Mul, &a.Num, &b.Den),
		into(&right, integer.Mul, &b.Num, &a.Den),
		into(&r.Num, operate, &left, &right),
		into(&r.Den, integer.Mul, &a.Den, &b.Den))
}

// rounded returns the multiple of the unit with so many decimal places whose
// factor is the quotient that divide makes.
func rounded(r api.Ratio, places int, divide operation) (api.Ratio, api.Errno) {
	if places < 0 || places > api.MaxPlaces {
		return api.Ratio{}, api.ErrRational
	}
	units := "1" + strings.Repeat("0", places)
	out := api.Ratio{Den: units}
	return build(&out,
		valid(r),
		into(&out.Num, integer.Mul, &r.Num, &units),
		into(&out.Num, divide, &out.Num, &r.Den))
}

// floor returns the quotient of x by y, rounded down if y is positive.
func floor(x string, y string) (string, api.Errno) {
	quotient, _, err := integer.Div(x, y)
	return quotient, err
}

// ceiling returns the quotient of x by y, which must be positive, rounded up.
func ceiling(x string, y string) (string, api.Errno) {
	quotient, rest, err := integer.Div(x, y)
	if err != api.OK || rest == "0" {
		return quotient, err
	}
	return integer.Add(quotient, "1")
}

// withSign returns the size with the sign of n, which must not be 0.
func withSign(size string, n string) (string, api.Errno) {
	switch integer.Compare(n, "0") {
	case 0:
		return "", api.ErrRational
	case -1:
		return integer.Sub("0", size)
	}
	return size, api.OK
}

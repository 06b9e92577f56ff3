package integer_test

import (
	"math"
	"strconv"
	"strings"
	"testing"

	"workpiece/api"
	"workpiece/integer"
	"workpiece/sample"
)

// P3.1: the examples of the chapter, the limit, and strings of other forms.
func TestValid(t *testing.T) {
	for _, s := range []string{"0", "-7", "1", "9", "10", "-10", "1000000", most, "-" + most} {
		if !integer.Valid(s) {
			t.Errorf("Valid(%q) = false", s)
		}
	}
	for _, s := range append(edges(), sample.Integers(300, api.MaxDigits, 1)...) {
		if !integer.Valid(s) {
			t.Errorf("Valid(%q) = false", s)
		}
	}
	for _, s := range invalid {
		if integer.Valid(s) {
			t.Errorf("Valid(%.50q) = true", s)
		}
	}
}

// P3.2: among all short strings, exactly one is valid for each number.
func TestValidShort(t *testing.T) {
	for _, s := range sample.Strings("-+0123789 _/:a", 5) {
		n, err := strconv.Atoi(s)
		if integer.Valid(s) != (err == nil && strconv.Itoa(n) == s) {
			t.Errorf("Valid(%q) = %t", s, integer.Valid(s))
		}
	}
}

// P3.1: every byte that is no digit is refused wherever it stands.
func TestValidBytes(t *testing.T) {
	for _, s := range []string{"1", "-12", "12345678901", most} {
		for i := range len(s) {
			for b := range 256 {
				changed := s[:i] + string([]byte{byte(b)}) + s[i+1:]
				rest := strings.TrimPrefix(changed, "-")
				want := len(rest) > 0 && strings.Trim(rest, "0123456789") == "" && (rest[0] != '0' || changed == "0")
				if integer.Valid(changed) != want {
					t.Errorf("Valid(%q) = %t", changed, !want)
				}
			}
		}
	}
}

// P3.1 and P3.2: numbers of 64 bits in both directions, with their ends.
func TestInts(t *testing.T) {
	list := []int{0, 1, -1, 9, 10, -10, 9999, 10000, -10000, 99999999, 100000000, math.MaxInt32, math.MaxInt - 1, math.MaxInt, math.MinInt + 1, math.MinInt}
	for i := range 2000 {
		list = append(list, i-1000, (i-1000)*9973, math.MaxInt-i*i*i, math.MinInt+i*i*i, math.MaxInt>>(i%63), math.MinInt>>(i%63))
	}
	for _, n := range list {
		s := strconv.Itoa(n)
		if got := integer.FromInt(n); got != s {
			t.Errorf("FromInt(%d) = %q", n, got)
		}
		if got, err := integer.ToInt(s); got != n || err != api.OK {
			t.Errorf("ToInt(%q) = %d, %d", s, got, err)
		}
	}
}

// P3.1: integers of all sizes are those of 64 bits, or refused.
func TestToInt(t *testing.T) {
	list := append(edges(), sample.Integers(500, 25, 2)...)
	list = append(list, "9223372036854775808", "-9223372036854775809", "18446744073709551616", "-18446744073709551615", "18446744073709551617", "100000000000000000000", "-100000000000000000001")
	for _, s := range list {
		want, wantErr := 0, api.ErrInteger
		if n := number(s); n.IsInt64() {
			want, wantErr = int(n.Int64()), api.OK
		}
		if got, err := integer.ToInt(s); got != want || err != wantErr {
			t.Errorf("ToInt(%q) = %d, %d", s, got, err)
		}
	}
	for _, s := range invalid {
		if got, err := integer.ToInt(s); got != 0 || err != api.ErrInteger {
			t.Errorf("ToInt(%.50q) = %d, %d", s, got, err)
		}
	}
}

// P3.1: every function refuses an invalid integer as any of its arguments.
func TestInvalid(t *testing.T) {
	for _, s := range invalid {
		for _, other := range []string{"0", "1", "-7", most, s} {
			for _, pair := range [][2]string{{s, other}, {other, s}} {
				a, b := pair[0], pair[1]
				for i, got := range []string{sum(a, b), difference(a, b), product(a, b), divisor(a, b)} {
					if got != refused {
						t.Errorf("function %d of %.30q and %.30q = %s", i, a, b, got)
					}
				}
				if q, r, err := integer.Div(a, b); q != "" || r != "" || err != api.ErrInteger {
					t.Errorf("Div(%.30q, %.30q) = %q, %q, %d", a, b, q, r, err)
				}
				if c := integer.Compare(a, b); c != 0 {
					t.Errorf("Compare(%.30q, %.30q) = %d", a, b, c)
				}
			}
		}
		if got := root(s); got != refused {
			t.Errorf("Root(%.30q) = %s", s, got)
		}
	}
}

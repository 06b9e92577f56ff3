package wire_test

import (
	"math"
	"strings"
	"testing"

	"workpiece/api"
	"workpiece/wire"
)

// P1.2: the encoding of a string is that of its length, and its bytes.
func TestStringEncodings(t *testing.T) {
	for _, c := range []struct{ s, code string }{
		{"", "\x00"}, {"a", "\x02a"}, {"ab", "\x04ab"}, {"\x00", "\x02\x00"}, {"\xff\x80\x00\xfe", "\x08\xff\x80\x00\xfe"}, {"é", "\x04\xc3\xa9"},
		{strings.Repeat("x", 63), "\x7e" + strings.Repeat("x", 63)},
		{strings.Repeat("x", 64), "\x80\x01" + strings.Repeat("x", 64)},
		{strings.Repeat("x", 150), "\xac\x02" + strings.Repeat("x", 150)},
		{strings.Repeat("\x80", api.MaxString), "\x80\x80\x08" + strings.Repeat("\x80", api.MaxString)},
	} {
		if code, err := wire.PutString(c.s); code != c.code || err != api.OK {
			t.Errorf("PutString(%.20q) = %.20q, %d; want %.20q", c.s, code, err, c.code)
		}
		if s, next, err := wire.String(c.code, 0); s != c.s || next != len(c.code) || err != api.OK {
			t.Errorf("String(%.20q, 0) = %.20q, %d, %d; want %.20q", c.code, s, next, err, c.s)
		}
	}
}

// P1.2: every length up to 1000, and those near MaxString.
func TestStringLengths(t *testing.T) {
	long := strings.Repeat("0123456789abcde", api.MaxString/15+2)
	check := func(size int) {
		s := long[:size]
		code, err := wire.PutString(s)
		if err != api.OK || code != refPutInt(size)+s {
			t.Errorf("PutString of %d bytes: %.20q, %d", size, code, err)
		}
		if u, next, err := wire.String("--"+code+"--", 2); err != api.OK || u != s || next != 2+len(code) {
			t.Errorf("String of %d bytes: %.20q, %d, %d", size, u, next, err)
		}
	}
	for size := range 1001 {
		check(size)
	}
	check(api.MaxString - 1)
	check(api.MaxString)
}

// P1.2: a string of more than MaxString bytes is neither encoded nor decoded.
func TestStringTooLong(t *testing.T) {
	long := strings.Repeat("x", 2*api.MaxString)
	for _, size := range []int{api.MaxString + 1, api.MaxString + 2, 2 * api.MaxString} {
		if code, err := wire.PutString(long[:size]); code != "" || err != api.ErrWire {
			t.Errorf("PutString of %d bytes = %.20q, %d; want ErrWire", size, code, err)
		}
		if s, next, err := wire.String(refPutInt(size)+long, 0); s != "" || next != 0 || err != api.ErrWire {
			t.Errorf("String of %d bytes = %.20q, %d, %d; want ErrWire", size, s, next, err)
		}
	}
}

// P1.2: String decodes at any offset, and does not examine what stands around.
func TestStringAtOffset(t *testing.T) {
	for _, before := range []string{"", "x", "\x80", "\x04ab"} {
		for _, after := range []string{"", "y", "\x00", "\xff\xff"} {
			for _, s := range []string{"", "a", "ab", "\x80\x00"} {
				code := refPutInt(len(s)) + s
				u, next, err := wire.String(before+code+after, len(before))
				if u != s || next != len(before)+len(code) || err != api.OK {
					t.Errorf("String(%q %q %q) = %q, %d, %d", before, code, after, u, next, err)
				}
			}
		}
	}
}

// P1.2: an offset outside of the string is ErrArg, whatever else is wrong.
func TestStringOffsetErrors(t *testing.T) {
	for _, s := range []string{"", "\x00", "\x80", "\x04ab", "\x04a", "\x01a"} {
		for _, at := range []int{-1, len(s) + 1, -2, len(s) + 2, math.MinInt, math.MaxInt, math.MinInt32, math.MaxInt32} {
			if u, next, err := wire.String(s, at); u != "" || next != 0 || err != api.ErrArg {
				t.Errorf("String(%x, %d) = %q, %d, %d; want ErrArg", s, at, u, next, err)
			}
		}
		if u, next, err := wire.String(s, len(s)); u != "" || next != 0 || err != api.ErrWire {
			t.Errorf("String(%x, %d) = %q, %d, %d; want ErrWire", s, len(s), u, next, err)
		}
	}
}

// P1.2: no length begins there, the length is negative, or bytes are missing.
func TestStringMalformed(t *testing.T) {
	full := strings.Repeat("x", api.MaxString)
	for _, s := range []string{
		"", "\x80", "\xff\xff", "\x80\x00", "\x84\x00ab",
		"\x01", "\x01a", "\x03ab", "\xfd\xff\xff\xff\xff\xff\xff\xff\x7fab", "\xff\xff\xff\xff\xff\xff\xff\xff\x7fab",
		"\x02", "\x04", "\x04a", "\x06ab", "\x80\x01" + full[:63], "\x80\x80\x08" + full[1:], "\x80\x80\x08",
		"\xfe\xff\xff\xff\xff\xff\xff\xff\x7fab", "\xfe\xff\xff\xff\x0fab",
	} {
		for _, before := range []string{"", "\x00", "abc"} {
			if u, next, err := wire.String(before+s, len(before)); u != "" || next != 0 || err != api.ErrWire {
				t.Errorf("String(%.20q, %d) = %.20q, %d, %d; want ErrWire", before+s, len(before), u, next, err)
			}
		}
	}
}

package sample

import (
	"strings"

	"workpiece/api"
)

// Code returns the encodings of integers, strings and fractions, by the definitions of
// the chapter on encoding, one after the other.
func Code(parts ...any) string {
	var out strings.Builder
	for _, part := range parts {
		switch part := part.(type) {
		case int:
			out.WriteString(intCode(part))
		case string:
			out.WriteString(intCode(len(part)) + part)
		case api.Ratio:
			out.WriteString(Code(part.Num, part.Den))
		}
	}
	return out.String()
}

// intCode returns the encoding of n.
func intCode(n int) string {
	z := uint64(2 * n)
	if n < 0 {
		z = uint64(-2*n - 1)
	}
	var out []byte
	for ; z >= 128; z /= 128 {
		out = append(out, byte(z%128+128))
	}
	return string(append(out, byte(z)))
}

// A Scanner reads encodings from the front, and keeps the first error. After it, what it
// reads means nothing.
type Scanner struct {
	Rest string
	Err  api.Errno
}

// Fail notes err, unless there was an error before.
func (s *Scanner) Fail(err api.Errno) {
	if s.Err == api.OK {
		s.Err = err
	}
}

// Int reads an integer.
func (s *Scanner) Int() int {
	size := 1
	for size < len(s.Rest) && s.Rest[size-1] >= 128 {
		size++
	}
	if size > len(s.Rest) || size > 9 {
		s.Fail(api.ErrWire)
		return 0
	}
	z := uint64(0)
	for i := size - 1; i >= 0; i-- {
		z = z*128 + uint64(s.Rest[i]%128)
	}
	n := int(z / 2)
	if z%2 == 1 {
		n = -n - 1
	}
	// It is not an encoding if it ends in the middle, or is longer than it must be.
	if intCode(n) != s.Rest[:size] || n < -api.MaxInt {
		s.Fail(api.ErrWire)
		return 0
	}
	s.Rest = s.Rest[size:]
	return n
}

// String reads a string.
func (s *Scanner) String() string {
	size := s.Int()
	if size < 0 || size > api.MaxString || size > len(s.Rest) {
		s.Fail(api.ErrWire)
		return ""
	}
	out := s.Rest[:size]
	s.Rest = s.Rest[size:]
	return out
}

// Ratio reads a fraction, which may have any Num and Den.
func (s *Scanner) Ratio() api.Ratio {
	num := s.String()
	return api.Ratio{Num: num, Den: s.String()}
}

// End notes an error if something is left over.
func (s *Scanner) End() {
	if s.Rest != "" {
		s.Fail(api.ErrWire)
	}
}

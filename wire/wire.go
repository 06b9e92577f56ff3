// Package wire is layer 1: it encodes integers and strings as bytes, decodes
// them, and computes checksums. See shared/doc/01-wire.md.
package wire

import "workpiece/api"

const (
	groupBits = 7
	groupMask = 1<<groupBits - 1

	// more is added to the byte of a group that another group follows.
	more = 1 << groupBits

	// maxGroups is enough for the 63 bits of 2*MaxInt, the greatest folded integer.
	maxGroups = 9
)

// nibbleSums contains, for each value of the register's lowest four bits, what
// they leave in the register when they are shifted out.
var nibbleSums = [16]uint32{
	0x00000000, 0x105ec76f, 0x20bd8ede, 0x30e349b1,
	0x417b1dbc, 0x5125dad3, 0x61c69362, 0x7198540d,
	0x82f63b78, 0x92a8fc17, 0xa24bb5a6, 0xb21572c9,
	0xc38d26c4, 0xd3d3e1ab, 0xe330a81a, 0xf36e6f75,
}

// PutInt returns the encoding of n, or ErrWire if n is not from -MaxInt to MaxInt.
func PutInt(n int) (string, api.Errno) {
	if n < -api.MaxInt || n > api.MaxInt {
		return "", api.ErrWire
	}
	var out [maxGroups]byte
	size := 0
	for b := range groups(fold(n)) {
		out[size] = b
		size++
	}
	return string(out[:size]), api.OK
}

// Int decodes the integer whose encoding begins at offset at of s, and returns
// it and the offset of the byte after the encoding.
func Int(s string, at int) (int, int, api.Errno) {
	if at < 0 || at > len(s) {
		return 0, 0, api.ErrArg
	}
	z, size, ok := join(s[at:])
	if !ok {
		return 0, 0, api.ErrWire
	}
	n := unfold(z)
	// The groups have room for one integer too many, -MaxInt - 1.
	if n < -api.MaxInt {
		return 0, 0, api.ErrWire
	}
	return n, at + size, api.OK
}

// PutString returns the encoding of s, or ErrWire if s has more than MaxString bytes.
func PutString(s string) (string, api.Errno) {
	if len(s) > api.MaxString {
		return "", api.ErrWire
	}
	size, err := PutInt(len(s))
	if err != api.OK {
		return "", err
	}
	return size + s, api.OK
}

// String decodes the string whose encoding begins at offset at of s, and
// returns it and the offset of the byte after the encoding.
func String(s string, at int) (string, int, api.Errno) {
	size, begin, err := Int(s, at)
	if err != api.OK {
		return "", 0, err
	}
	if size < 0 || size > api.MaxString || size > len(s)-begin {
		return "", 0, api.ErrWire
	}
	end := begin + size
	// A copy, because a result shares no memory with an argument.
	return string([]byte(s[begin:end])), end, api.OK
}

// Sum returns the CRC-32C checksum of s.
func Sum(s string) int {
	register := ^uint32(0)
	for i := range len(s) {
		register ^= uint32(s[i])
		register = register>>4 ^ nibbleSums[register&15]
		register = register>>4 ^ nibbleSums[register&15]
	}
	return int(^register)
}

// fold maps integers to unsigned ones so that those near 0 have short
// encodings, whatever their sign.
func fold(n int) uint64 {
	if n < 0 {
		return 2*uint64(-n) - 1
	}
	return 2 * uint64(n)
}

// unfold reverses fold for any z of at most maxGroups groups.
func unfold(z uint64) int {
	if z%2 == 1 {
		return -int(z/2) - 1
	}
	return int(z / 2)
}

// groups yields the bytes of the encoding of z.
func groups(z uint64) func(yield func(byte) bool) {
	return func(yield func(byte) bool) {
		rest := z
		for rest >= more {
			if !yield(byte(rest&groupMask) | more) {
				return
			}
			rest >>= groupBits
		}
		yield(byte(rest))
	}
}

// join returns the number whose groups s begins with, and how many they are. It
// reports false if s ends before the groups do, if one of them is superfluous,
// or if they are more than maxGroups: then the last one is superfluous as well,
// or the number is too great.
func join(s string) (uint64, int, bool) {
	z := uint64(0)
	for i := range min(len(s), maxGroups) {
		b := s[i]
		if b == 0 && i > 0 {
			return 0, 0, false
		}
		z |= uint64(b&groupMask) << (groupBits * i)
		if b < more {
			return z, i + 1, true
		}
	}
	return 0, 0, false
}

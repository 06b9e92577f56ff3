// Package sample makes inputs for the tests of the layers. They look random, and
// are the same in every run.
package sample

import "slices"

// Bytes returns size bytes, which are different ones for different seeds.
func Bytes(size int, seed uint64) string {
	out := make([]byte, size)
	for i := range out {
		seed = seed*6364136223846793005 + 1442695040888963407
		out[i] = byte(seed >> 56)
	}
	return string(out)
}

// Digits returns an integer with size digits, which must be at least 1. Many of
// its groups of four digits are at the ends of what a group can be, where carries
// and wrong estimates show.
func Digits(size int, seed uint64) string {
	random := Bytes(2*size+5, seed)
	out := make([]byte, 0, size+3)
	for at := 0; len(out) < size; at += 5 {
		switch kind := random[at] % 16; {
		case kind < 3:
			out = append(out, "0000"...)
		case kind < 6:
			out = append(out, "9999"...)
		case kind == 6:
			out = append(out, "0001"...)
		case kind == 7:
			out = append(out, "9998"...)
		default:
			for _, b := range []byte(random[at+1 : at+5]) {
				out = append(out, '0'+b%10)
			}
		}
	}
	// The groups begin at the last digit.
	out = out[len(out)-size:]
	if out[0] == '0' {
		out[0] = '1'
	}
	return string(out)
}

// Integers returns count integers of all lengths up to the given one, and of both
// signs. None is 0.
func Integers(count int, length int, seed uint64) []string {
	var out []string
	for i := range count {
		random := Bytes(3, seed+uint64(i))
		s := Digits(1+(int(random[0])<<8+int(random[1]))%length, seed+uint64(i))
		if random[2]%2 == 0 {
			s = "-" + s
		}
		out = append(out, s)
	}
	return out
}

// Strings returns all strings of up to length of the letters, which must be ASCII;
// the shorter ones come first.
func Strings(letters string, length int) []string {
	list := []string{""}
	for from := 0; len(list[from]) < length; from++ {
		for i := range len(letters) {
			list = append(list, list[from]+letters[i:i+1])
		}
	}
	return list
}

// Shuffled returns the numbers less than n in some order.
func Shuffled(n int, seed uint64) []int {
	var out []int
	for i, b := range []byte(Bytes(n, seed)) {
		out = slices.Insert(out, int(b)%(i+1), i)
	}
	return out
}

// Reordered returns the elements of list in the order of their indices.
func Reordered[T any](list []T, order []int) []T {
	var out []T
	for _, i := range order {
		out = append(out, list[i])
	}
	return out
}

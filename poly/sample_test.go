package poly_test

import (
	"slices"
	"strconv"
	"strings"

	"workpiece/api"
	"workpiece/poly"
	"workpiece/rational"
	"workpiece/sample"
)

// number returns the fraction with the text s.
func number(s string) api.Ratio { return sample.Number(s) }

// parsed returns the polynomial with the text s: its coefficients.
func parsed(s string) []api.Ratio { return sample.Numbers(s) }

// text returns the text of the polynomial p.
func text(p []api.Ratio) string {
	var words []string
	for _, r := range p {
		words = append(words, rational.Print(r))
	}
	return strings.Join(words, " ")
}

// product returns the product of factors, which must not be too large.
func product(factors ...[]api.Ratio) []api.Ratio {
	out := parsed("1")
	for _, p := range factors {
		var err api.Errno
		if out, err = poly.Mul(out, p); err != api.OK {
			panic("too large: " + text(p))
		}
	}
	return out
}

// numbers returns small fractions of all kinds.
func numbers() []api.Ratio {
	return parsed("0 1 -1 2 -2 1/2 -1/2 3 -7/3 22/7 100 -1000/999 123456789/1000 -1/1000000007")
}

// ofBytes returns the polynomial with so many coefficients, which are integers
// from -most to most, or less of them if the last ones are 0.
func ofBytes(size int, most int, seed uint64) []api.Ratio {
	var out []api.Ratio
	for _, b := range []byte(sample.Bytes(size, seed)) {
		out = append(out, number(strconv.Itoa(int(b)%(2*most+1)-most)))
	}
	return stripped(out)
}

// stripped returns p without leading zeros.
func stripped(p []api.Ratio) []api.Ratio {
	for len(p) > 0 && p[len(p)-1].Num == "0" {
		p = p[:len(p)-1]
	}
	return p
}

// polynomials returns polynomials of all degrees up to the given one, whose
// coefficients have up to length digits. Every third one has many coefficients 0.
func polynomials(degree int, length int, seed uint64) [][]api.Ratio {
	out := [][]api.Ratio{nil, parsed("1"), parsed("0 1")}
	for size := range degree + 2 {
		p := sample.Fractions(size, length, seed+uint64(size)<<8)
		out = append(out, p)
		if size%3 == 0 {
			thin := slices.Clone(p)
			for i := range max(0, size-1) {
				if i*5%3 != 1 {
					thin[i] = number("0")
				}
			}
			out = append(out, thin)
		}
	}
	return out
}

// small returns polynomials of all degrees up to the given one, whose coefficients
// are small integers, so that hardly anything is too large.
func small(degree int, seed uint64) [][]api.Ratio {
	out := [][]api.Ratio{nil, parsed("-1")}
	for size := range degree + 2 {
		out = append(out, ofBytes(size, 3, seed+uint64(size)<<8), ofBytes(size, 1, seed+uint64(size)<<16))
	}
	return out
}

// strangers returns what is no polynomial.
func strangers() [][]api.Ratio {
	out := [][]api.Ratio{parsed("0"), parsed("1 0"), parsed("1 2 3 0"), parsed("0 0"), parsed("1 1 0 0 0"), append(slices.Repeat(parsed("1"), 12), number("0"))}
	for _, size := range []int{14, 15, 26, 1 << 16} {
		out = append(out, slices.Repeat(parsed("1"), size), append(slices.Repeat(parsed("0"), size-1), number("1")))
	}
	for i, r := range sample.InvalidFractions() {
		for _, size := range []int{1, 2, 5, 13} {
			p := slices.Repeat(parsed("1"), size)
			p[i%size] = r
			out = append(out, p)
		}
	}
	return append(out, slices.Repeat([]api.Ratio{{}}, 13), slices.Repeat([]api.Ratio{{}}, 1<<16))
}

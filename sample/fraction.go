package sample

import (
	"strings"

	"workpiece/api"
	"workpiece/integer"
	"workpiece/rational"
)

// Nines returns the greatest integer of package integer.
func Nines() string { return strings.Repeat("9", api.MaxDigits) }

// Power returns the integer 1 followed by so many zeros.
func Power(zeros int) string { return "1" + strings.Repeat("0", zeros) }

// Fraction returns the valid fraction with the value num divided by den. It panics
// if there is none.
func Fraction(num string, den string) api.Ratio {
	r, err := rational.Make(num, den)
	if err != api.OK {
		panic("not a fraction: " + num + "/" + den)
	}
	return r
}

// Number returns the valid fraction with the text s. It panics if there is none.
func Number(s string) api.Ratio {
	r, err := rational.Parse(s)
	if err != api.OK {
		panic("not a fraction: " + s)
	}
	return r
}

// Numbers returns the valid fractions whose texts are the words of s.
func Numbers(s string) []api.Ratio {
	var out []api.Ratio
	for _, word := range strings.Fields(s) {
		out = append(out, Number(word))
	}
	return out
}

// SmallFractions returns all valid fractions with a Num from -most to most and a
// Den from 1 to most.
func SmallFractions(most int) []api.Ratio {
	var out []api.Ratio
	for n := -most; n <= most; n++ {
		for d := 1; d <= most; d++ {
			if r := (api.Ratio{Num: integer.FromInt(n), Den: integer.FromInt(d)}); rational.Valid(r) {
				out = append(out, r)
			}
		}
	}
	return out
}

// LargeFractions returns valid fractions of which operations are too large, or
// nearly so.
func LargeFractions() []api.Ratio {
	nines := Nines()
	sizes := []string{"1", "2", "3", "7", "12", Power(30), Power(99), Power(100), Power(199), nines[:99], nines[:100], nines[:101], nines[:199] + "8", nines, "5" + nines[:199]}
	out := []api.Ratio{{Num: "0", Den: "1"}}
	known := map[api.Ratio]bool{}
	for _, n := range sizes {
		for _, d := range sizes {
			for _, r := range []api.Ratio{Fraction(n, d), Fraction("-"+n, d)} {
				if !known[r] {
					known[r] = true
					out = append(out, r)
				}
			}
		}
	}
	return out
}

// Fractions returns count valid fractions whose Num and Den have up to length
// digits. Many have common factors with each other.
func Fractions(count int, length int, seed uint64) []api.Ratio {
	nums, dens := Integers(count, length, seed), Integers(count, length, seed+1<<32)
	factors := []string{"1", "2", "3", "10", "36", "210", "1000", "9999"}
	var out []api.Ratio
	for i, num := range nums {
		den := dens[i]
		n, errN := integer.Mul(num, factors[i%len(factors)])
		d, errD := integer.Mul(den, factors[i/3%len(factors)])
		if errN == api.OK && errD == api.OK {
			num, den = n, d
		}
		out = append(out, Fraction(num, den))
	}
	return out
}

// InvalidFractions returns fractions that are not valid.
func InvalidFractions() []api.Ratio {
	nines := Nines()
	return []api.Ratio{
		{}, {Num: "1"}, {Den: "1"}, {Num: "0"}, {Num: "1", Den: "0"}, {Num: "0", Den: "0"}, {Num: "-1", Den: "0"},
		{Num: "2", Den: "4"}, {Num: "-2", Den: "4"}, {Num: "0", Den: "2"}, {Num: "3", Den: "3"}, {Num: "6", Den: "3"}, {Num: "4", Den: "6"},
		{Num: "1", Den: "-2"}, {Num: "-1", Den: "-2"}, {Num: "0", Den: "-1"}, {Num: "1", Den: "-1"},
		{Num: "-0", Den: "1"}, {Num: "+1", Den: "2"}, {Num: "1", Den: "+2"}, {Num: "01", Den: "2"}, {Num: "1", Den: "02"}, {Num: "x", Den: "1"}, {Num: "1", Den: "x"},
		{Num: "1/2", Den: "1"}, {Num: "1", Den: "1/2"}, {Num: " 1", Den: "2"}, {Num: "1", Den: "2 "}, {Num: "1.0", Den: "1"}, {Num: "\xff", Den: "\x00"},
		{Num: nines + "9", Den: "1"}, {Num: "1", Den: nines + "9"}, {Num: "-" + nines + "9", Den: "2"}, {Num: nines, Den: "3"}, {Num: "-" + nines, Den: nines},
		{Num: strings.Repeat("1", 1<<20), Den: "1"}, {Num: "1", Den: strings.Repeat("/", 1<<20)},
	}
}

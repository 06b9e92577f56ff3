package integer_test

import (
	"math/big"
	"strings"

	"workpiece/api"
	"workpiece/integer"
)

// most is the greatest valid integer.
var most = strings.Repeat("9", api.MaxDigits)

// invalid contains strings that are not valid integers.
var invalid = []string{
	"", "-", "--1", "+1", "+0", "-0", "00", "01", "007", "-01", "-00", " 1", "1 ", "1-", "1-1", "1.0", "1e3", "1_0", "0x1", "a",
	"1/2", "12:4", "/", ":", "1\x00", "\xff", "٣", "1٣", "−1", "1" + strings.Repeat("0", api.MaxDigits), most + "9", "-9" + most,
	strings.Repeat("0", api.MaxDigits), strings.Repeat("1", 1<<20), "-" + strings.Repeat("-", api.MaxDigits),
}

// number returns the number that the integer s stands for.
func number(s string) *big.Int {
	n, ok := new(big.Int).SetString(s, 10)
	if !ok {
		panic("not a number: " + s)
	}
	return n
}

// fits reports whether n has at most as many digits as a valid integer can have.
func fits(n *big.Int) bool { return n.CmpAbs(number(most)) <= 0 }

// refused is what a function returns together with ErrInteger.
const refused = "refused"

// reference returns the integer n, or refused if it has too many digits.
func reference(n *big.Int) string {
	if !fits(n) {
		return refused
	}
	return n.String()
}

// outcome returns s, or refused if it is empty and the error is ErrInteger.
func outcome(s string, err api.Errno) string {
	switch {
	case err == api.OK:
		return s
	case err == api.ErrInteger && s == "":
		return refused
	}
	return "a wrong result with an error: " + s
}

func sum(a, b string) string        { return outcome(integer.Add(a, b)) }
func difference(a, b string) string { return outcome(integer.Sub(a, b)) }
func product(a, b string) string    { return outcome(integer.Mul(a, b)) }
func divisor(a, b string) string    { return outcome(integer.Gcd(a, b)) }
func root(a string) string          { return outcome(integer.Root(a)) }

// edges returns integers near those at which a number gets another digit or
// group, or no longer fits into a word; both signs of each.
func edges() []string {
	var sizes []string
	for n := range 12 {
		sizes = append(sizes, big.NewInt(int64(n)).String())
	}
	for _, digits := range []int{2, 3, 4, 5, 8, 9, 12, 13, 16, 17, 20, 21, 28, 99, 100, 101, 196, 197, 199, 200} {
		power := "1" + strings.Repeat("0", digits-1)
		sizes = append(sizes, power, strings.Repeat("9", digits), power[:digits-1]+"1", "9"+power[1:])
	}
	for _, bits := range []uint{31, 32, 53, 62, 63, 64} {
		power := new(big.Int).Lsh(big.NewInt(1), bits)
		for d := int64(-1); d <= 1; d++ {
			sizes = append(sizes, new(big.Int).Add(power, big.NewInt(d)).String())
		}
	}
	return bothSigns(sizes)
}

// bothSigns returns the integers of sizes and their negations.
func bothSigns(sizes []string) []string {
	var out []string
	for _, s := range sizes {
		out = append(out, s)
		if s != "0" {
			out = append(out, negated(s))
		}
	}
	return out
}

// negated returns the integer 0 minus s.
func negated(s string) string { return new(big.Int).Neg(number(s)).String() }

package sample

import (
	"slices"
	"strconv"
	"strings"

	"workpiece/api"
)

// Tower returns the tower with the text s: its radicands.
func Tower(s string) api.Tower {
	var t api.Tower
	if s != "" {
		for _, d := range strings.Split(s, ";") {
			t.Radicands = append(t.Radicands, Numbers(d))
		}
	}
	return t
}

// An Extension is a tower with some of its elements that have the value 0 although
// not all of their coefficients are 0. There are such elements if a radicand is a
// square.
type Extension struct {
	Text      string
	Vanishing []string
}

// Extensions returns towers of all levels.
func Extensions() []Extension {
	return []Extension{
		{"", nil},
		{"2", nil},
		{"4", []string{"2 -1", "-6 3"}},
		{"1", []string{"1 -1"}},
		{"1/4", []string{"1/2 -1"}},
		{"2/3", nil},
		{"320", nil},
		{"12345678901234567891/1000000007", nil},
		{"2; 3 2", []string{"1 1 -1 0", "2 1 0 -1"}},
		{"2; 3 0", nil},
		{"2; 2 1", nil},
		{"2; 99 -70", nil},
		{"2; 8 0", []string{"0 2 -1 0", "4 0 0 -1"}},
		{"4; 5 -2", []string{"2 -1 0 0", "1 0 -1 0", "0 1 -2 0"}},
		{"9; 1/2 1/2", nil},
		{"3; 7 4", []string{"2 1 -1 0"}},
		{"2; 3 0; 5 0 0 0", nil},
		{"2; 3 0; 5 0 0 2", []string{"0 1 1 0 -1 0 0 0", "2 0 0 1 0 -1 0 0"}},
		{"2; 2 1; 2 0 1 0", nil},
		{"2; 3 2; 2 1 1 0", []string{"1 1 -1 0 0 0 0 0", "1 1 0 0 -1 0 0 0", "0 0 1 0 -1 0 0 0"}},
		{"2; 3 0; 5 0 0 0; 7 0 0 0 0 0 0 0", nil},
		{"2; 2 1; 2 0 1 0; 2 0 0 0 1 0 0 0", nil},
		{"2; 2 0; 2 0 0 0; 2 0 0 0 0 0 0 0", []string{"0 1 -1 0 0 0 0 0 0 0 0 0 0 0 0 0", "0 1 0 0 0 0 0 0 -1 0 0 0 0 0 0 0", "0 0 0 1 0 0 0 0 0 0 0 0 -1 0 0 0"}},
		{"2; 3 0; 7 0 0 0; 9 0 0 0 0 2 0 0", []string{"0 1 0 0 1 0 0 0 -1 0 0 0 0 0 0 0"}},
	}
}

// All returns elements of the tower of s whose coefficients have up to length
// digits.
func (s Extension) All(count int, length int, seed uint64) [][]api.Ratio {
	return s.varied(count, func(i int, n int) []api.Ratio { return Fractions(n, length, seed+uint64(i)<<8) })
}

// Small returns elements of the tower of s whose coefficients are integers from -3
// to 3, so that hardly anything is too large.
func (s Extension) Small(count int, seed uint64) [][]api.Ratio {
	return s.varied(count, func(i int, n int) []api.Ratio {
		var a []api.Ratio
		for _, b := range []byte(Bytes(n, seed+uint64(i)<<8)) {
			a = append(a, Fraction(strconv.Itoa(int(b)%7-3), "1"))
		}
		return a
	})
}

// varied returns elements of the tower of s: 0 and 1, those that have the value 0,
// count elements that next makes for a number and a size, of which every second
// one has mostly 0, and some that are nearly one with the value 0.
func (s Extension) varied(count int, next func(i int, n int) []api.Ratio) [][]api.Ratio {
	n := 1 << len(Tower(s.Text).Radicands)
	out := [][]api.Ratio{slices.Repeat(Numbers("0"), n), Numbers("1" + strings.Repeat(" 0", n-1))}
	for _, v := range s.Vanishing {
		out = append(out, Numbers(v))
	}
	for i := range count {
		a := next(i, n)
		if i%2 == 1 {
			a = thinned(a, i/2)
		}
		out = append(out, a)
		if len(s.Vanishing) > 0 && i%4 == 0 {
			near := Numbers(s.Vanishing[i/4%len(s.Vanishing)])
			near[i%n] = a[0]
			out = append(out, near)
		}
	}
	return out
}

// thinned returns a with most of its coefficients replaced by 0.
func thinned(a []api.Ratio, pattern int) []api.Ratio {
	out := slices.Repeat(Numbers("0"), len(a))
	for i := range a {
		if (i+pattern)%len(a) == 0 || (i*5+pattern)%3 == 0 {
			out[i] = a[i]
		}
	}
	return out
}

// InvalidTowers returns towers that are not valid.
func InvalidTowers() []api.Tower {
	var out []api.Tower
	for _, s := range []string{
		"0", "-1", "-1/2", "1 1", "0 1", "2 0",
		"2; 0 0", "2; 1 -1", "2; -3 2", "2; -2 0", "2; 3", "2; 3 0 0", "2; 3 0 0 0", "-2; 3 0", "4; 2 -1", "4; 4 -2", "2; 0 -1",
		"2; 3 2; 1 1 -1 0", "2; 3 2; 1 1 -1", "2; 3 0; 1 0 0 -1", "2; 3 0; 5 0", "2; 3 0; 5 0 0 0 0 0 0 0", "2; 1 -1; 5 0 0 0", "2; 3 0; 0 0 0 0; 7 0 0 0 0 0 0 0",
		"2; 3 0; 5 0 0 0; 7 0 0 0", "2; 3 0; 5 0 0 0; -7 0 0 0 0 0 0 0", "2; 2 0; 2 0 0 0; 0 1 0 0 -1 0 0 0",
		"2; 3 0; 5 0 0 0; 7 0 0 0 0 0 0 0; 11 0 0 0 0 0 0 0 0 0 0 0 0 0 0 0",
		// The sign of the second radicand is too large, and would be 1.
		"2; " + Power(100) + " -1", "2; 1 -1/" + Power(100),
	} {
		out = append(out, Tower(s))
	}
	for _, r := range InvalidFractions() {
		out = append(out, api.Tower{Radicands: [][]api.Ratio{{r}}})
		out = append(out, api.Tower{Radicands: [][]api.Ratio{Numbers("2"), {Numbers("3")[0], r}}})
		out = append(out, api.Tower{Radicands: [][]api.Ratio{Numbers("2"), {r, Numbers("3")[0]}}})
	}
	return append(out, api.Tower{Radicands: [][]api.Ratio{nil}}, api.Tower{Radicands: [][]api.Ratio{Numbers("2"), nil}}, api.Tower{Radicands: [][]api.Ratio{{}, Numbers("2 0")}},
		api.Tower{Radicands: make([][]api.Ratio, 1<<20)}, api.Tower{Radicands: slices.Repeat([][]api.Ratio{Numbers("2")}, 5)}, api.Tower{Radicands: [][]api.Ratio{slices.Repeat(Numbers("2"), 1<<20)}})
}

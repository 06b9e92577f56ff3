package tower_test

import (
	"slices"
	"strconv"
	"strings"

	"workpiece/api"
	"workpiece/rational"
	"workpiece/sample"
)

// parsed returns the element with the text s: its coefficients.
func parsed(s string) []api.Ratio {
	var out []api.Ratio
	for _, word := range strings.Fields(s) {
		r, err := rational.Parse(word)
		if err != api.OK {
			panic("not a fraction: " + word)
		}
		out = append(out, r)
	}
	return out
}

// built returns the tower with the text s: its radicands.
func built(s string) api.Tower {
	var t api.Tower
	if s != "" {
		for _, d := range strings.Split(s, ";") {
			t.Radicands = append(t.Radicands, parsed(d))
		}
	}
	return t
}

// size returns the number of coefficients of the elements of t.
func size(t api.Tower) int { return 1 << len(t.Radicands) }

// text returns the text of the element a.
func text(a []api.Ratio) string {
	var words []string
	for _, r := range a {
		words = append(words, rational.Print(r))
	}
	return strings.Join(words, " ")
}

// towerText returns the text of the tower t.
func towerText(t api.Tower) string {
	var words []string
	for _, d := range t.Radicands {
		words = append(words, text(d))
	}
	return strings.Join(words, "; ")
}

// A subject is a tower with some of its elements that have the value 0 although
// not all of their coefficients are 0. There are such elements if a radicand is a
// square.
type subject struct {
	tower     string
	vanishing []string
}

// subjects returns towers of all levels.
func subjects() []subject {
	return []subject{
		{"", nil},
		{"2", nil},
		{"4", []string{"2 -1", "-6 3"}},
		{"1", []string{"1 -1"}},
		{"1/4", []string{"1/2 -1"}},
		{"2/3", nil},
		{"320", nil},
		{"12345678901234567891/1000000007", nil},
		{"2; 3 2", []string{"1 1 -1 0", "2 1 0 -1"}},
		{"2; 3 0", nil},
		{"2; 2 1", nil},
		{"2; 99 -70", nil},
		{"2; 8 0", []string{"0 2 -1 0", "4 0 0 -1"}},
		{"4; 5 -2", []string{"2 -1 0 0", "1 0 -1 0", "0 1 0 -2"}},
		{"9; 1/2 1/2", nil},
		{"3; 7 4", []string{"2 1 -1 0"}},
		{"2; 3 0; 5 0 0 0", nil},
		{"2; 3 0; 5 0 0 2", []string{"0 1 1 0 -1 0 0 0", "2 0 0 1 0 -1 0 0"}},
		{"2; 2 1; 2 0 1 0", nil},
		{"2; 3 2; 2 1 1 0", []string{"1 1 -1 0 0 0 0 0", "1 1 0 0 -1 0 0 0", "0 0 1 0 -1 0 0 0"}},
		{"2; 3 0; 5 0 0 0; 7 0 0 0 0 0 0 0", nil},
		{"2; 2 1; 2 0 1 0; 2 0 0 0 1 0 0 0", nil},
		{"2; 2 0; 2 0 0 0; 2 0 0 0 0 0 0 0", []string{"0 1 -1 0 0 0 0 0 0 0 0 0 0 0 0 0", "0 1 0 0 0 0 0 0 -1 0 0 0 0 0 0 0", "0 0 0 1 0 0 0 0 0 0 0 0 -1 0 0 0"}},
		{"2; 3 0; 7 0 0 0; 9 0 0 0 0 2 0 0", []string{"0 1 0 0 1 0 0 0 -1 0 0 0 0 0 0 0"}},
	}
}

// all returns elements of the tower of s whose coefficients have up to length
// digits.
func (s subject) all(count int, length int, seed uint64) [][]api.Ratio {
	return s.varied(count, func(i int, n int) []api.Ratio { return sample.Fractions(n, length, seed+uint64(i)<<8) })
}

// small returns elements of the tower of s whose coefficients are integers from -3
// to 3, so that hardly anything is too large.
func (s subject) small(count int, seed uint64) [][]api.Ratio {
	return s.varied(count, func(i int, n int) []api.Ratio {
		var a []api.Ratio
		for _, b := range []byte(sample.Bytes(n, seed+uint64(i)<<8)) {
			a = append(a, sample.Fraction(strconv.Itoa(int(b)%7-3), "1"))
		}
		return a
	})
}

// varied returns elements of the tower of s: 0 and 1, those that have the value 0,
// count elements that next makes for a number and a size, of which every second
// one has mostly 0, and some that are nearly one with the value 0.
func (s subject) varied(count int, next func(i int, n int) []api.Ratio) [][]api.Ratio {
	n := size(built(s.tower))
	out := [][]api.Ratio{slices.Repeat(parsed("0"), n), parsed("1" + strings.Repeat(" 0", n-1))}
	for _, v := range s.vanishing {
		out = append(out, parsed(v))
	}
	for i := range count {
		a := next(i, n)
		if i%2 == 1 {
			a = thinned(a, i/2)
		}
		out = append(out, a)
		if len(s.vanishing) > 0 && i%4 == 0 {
			near := parsed(s.vanishing[i/4%len(s.vanishing)])
			near[i%n] = a[0]
			out = append(out, near)
		}
	}
	return out
}

// thinned returns a with most of its coefficients replaced by 0.
func thinned(a []api.Ratio, pattern int) []api.Ratio {
	out := slices.Repeat(parsed("0"), len(a))
	for i := range a {
		if (i+pattern)%len(a) == 0 || (i*5+pattern)%3 == 0 {
			out[i] = a[i]
		}
	}
	return out
}

// invalidTowers returns towers that are not valid.
func invalidTowers() []api.Tower {
	var out []api.Tower
	for _, s := range []string{
		"0", "-1", "-1/2", "1 1", "0 1", "2 0",
		"2; 0 0", "2; 1 -1", "2; -3 2", "2; -2 0", "2; 3", "2; 3 0 0", "2; 3 0 0 0", "-2; 3 0", "4; 2 -1", "4; 4 -2", "2; 0 -1",
		"2; 3 2; 1 1 -1 0", "2; 3 2; 1 1 -1", "2; 3 0; 1 0 0 -1", "2; 3 0; 5 0", "2; 3 0; 5 0 0 0 0 0 0 0", "2; 1 -1; 5 0 0 0", "2; 3 0; 0 0 0 0; 7 0 0 0 0 0 0 0",
		"2; 3 0; 5 0 0 0; 7 0 0 0", "2; 3 0; 5 0 0 0; -7 0 0 0 0 0 0 0", "2; 2 0; 2 0 0 0; 0 1 0 0 -1 0 0 0",
		"2; 3 0; 5 0 0 0; 7 0 0 0 0 0 0 0; 11 0 0 0 0 0 0 0 0 0 0 0 0 0 0 0",
		// The sign of the second radicand is too large, and would be 1.
		"2; " + sample.Power(100) + " -1", "2; 1 -1/" + sample.Power(100),
	} {
		out = append(out, built(s))
	}
	for _, r := range sample.InvalidFractions() {
		out = append(out, api.Tower{Radicands: [][]api.Ratio{{r}}})
		out = append(out, api.Tower{Radicands: [][]api.Ratio{parsed("2"), {parsed("3")[0], r}}})
		out = append(out, api.Tower{Radicands: [][]api.Ratio{parsed("2"), {r, parsed("3")[0]}}})
	}
	return append(out, api.Tower{Radicands: [][]api.Ratio{nil}}, api.Tower{Radicands: [][]api.Ratio{parsed("2"), nil}}, api.Tower{Radicands: [][]api.Ratio{{}, parsed("2 0")}},
		api.Tower{Radicands: make([][]api.Ratio, 1<<20)}, api.Tower{Radicands: slices.Repeat([][]api.Ratio{parsed("2")}, 5)}, api.Tower{Radicands: [][]api.Ratio{slices.Repeat(parsed("2"), 1<<20)}})
}

// strangers returns what is no element of t.
func strangers(t api.Tower) [][]api.Ratio {
	n := size(t)
	out := [][]api.Ratio{nil, {}}
	for _, length := range []int{1, 2, 3, 4, 5, 8, 15, 16, 17, 32, n - 1, n + 1, 2 * n, 1 << 16} {
		if length > 0 && length != n {
			out = append(out, slices.Repeat(parsed("1"), length))
		}
	}
	for i, r := range sample.InvalidFractions() {
		a := slices.Repeat(parsed("1"), n)
		a[i%n] = r
		out = append(out, a)
	}
	return out
}

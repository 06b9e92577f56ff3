package tower_test

import (
	"slices"
	"strings"

	"workpiece/api"
	"workpiece/rational"
	"workpiece/sample"
)

// size returns the number of coefficients of the elements of t.
func size(t api.Tower) int { return 1 << len(t.Radicands) }

// text returns the text of the element a.
func text(a []api.Ratio) string {
	var words []string
	for _, r := range a {
		words = append(words, rational.Print(r))
	}
	return strings.Join(words, " ")
}

// towerText returns the text of the tower t.
func towerText(t api.Tower) string {
	var words []string
	for _, d := range t.Radicands {
		words = append(words, text(d))
	}
	return strings.Join(words, "; ")
}

// strangers returns what is no element of t.
func strangers(t api.Tower) [][]api.Ratio {
	n := size(t)
	out := [][]api.Ratio{nil, {}}
	for _, length := range []int{1, 2, 3, 4, 5, 8, 15, 16, 17, 32, n - 1, n + 1, 2 * n, 1 << 16} {
		if length > 0 && length != n {
			out = append(out, slices.Repeat(sample.Numbers("1"), length))
		}
	}
	for i, r := range sample.InvalidFractions() {
		a := slices.Repeat(sample.Numbers("1"), n)
		a[i%n] = r
		out = append(out, a)
	}
	return out
}

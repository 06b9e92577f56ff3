package conflict_test

import (
	"cmp"
	"slices"
	"strconv"
	"strings"

	"workpiece/api"
	"workpiece/cluster"
	"workpiece/rational"
	"workpiece/sample"
	"workpiece/sketch"
	"workpiece/solve"
)

// subsets returns all subsets of a sketch with count constraints, in order.
func subsets(count int) [][]int {
	var out [][]int
	for mask := 1; mask < 1<<count; mask++ {
		out = append(out, masked(count, mask))
	}
	slices.SortFunc(out, func(a, b []int) int { return cmp.Or(len(a)-len(b), slices.Compare(a, b)) })
	return out
}

// masked returns the numbers less than count whose bits in the mask are 1.
func masked(count int, mask int) []int {
	var out []int
	for i := range count {
		if mask>>i&1 == 1 {
			out = append(out, i)
		}
	}
	return out
}

// part returns the part of a subset.
func part(s api.Sketch, subset []int) api.Sketch {
	chosen := sample.Reordered(s.Constraints, subset)
	var out api.Sketch
	var numbers []int
	for p := range s.Points {
		numbers = append(numbers, out.Points)
		if slices.ContainsFunc(chosen, func(c api.Constraint) bool { return slices.Contains(sample.Indices(c), p) }) {
			out.Points++
		}
	}
	for _, c := range chosen {
		out.Constraints = append(out.Constraints, sample.Renumbered(c, numbers))
	}
	return out
}

// wantRefutes returns what Refutes is to return.
func wantRefutes(s api.Sketch, subset []int) bool {
	isOutside := func(i int) bool { return i < 0 || i >= len(s.Constraints) }
	ascending := slices.Clone(subset)
	slices.Sort(ascending)
	ascending = slices.Compact(ascending)
	if !sample.IsSketch(s) || len(subset) == 0 || !slices.Equal(subset, ascending) || slices.ContainsFunc(subset, isOutside) {
		return false
	}
	plan, errPlan := cluster.Plan(part(s, subset))
	list, err := solve.Solve(part(s, subset))
	return errPlan == api.OK && len(plan.Unplaced) == 0 && len(list) == 0 && err == api.OK
}

// contradictionOutcome returns the text of what Contradiction returns.
func contradictionOutcome(subset []int, found bool) string {
	var words []string
	for _, i := range subset {
		words = append(words, strconv.Itoa(i))
	}
	text := strings.Join(words, " ")
	if found == (text == "") {
		return strconv.FormatBool(found) + " with " + text
	}
	return text
}

// wantContradiction returns what Contradiction is to return.
func wantContradiction(s api.Sketch) string {
	if !sample.IsSketch(s) || len(s.Constraints) > 10 {
		return ""
	}
	for _, subset := range subsets(len(s.Constraints)) {
		if wantRefutes(s, subset) {
			return contradictionOutcome(subset, true)
		}
	}
	return ""
}

// text returns the text of points or a velocity.
func text(pairs [][2]api.Ratio) string {
	var out []string
	for _, p := range pairs {
		out = append(out, rational.Print(p[0])+", "+rational.Print(p[1]))
	}
	return strings.Join(out, "; ")
}

// refused is the outcome of a call that returns ErrConflict.
var refused = sample.Failure(api.ErrConflict)

// motionOutcome returns the text of what Motion returns.
func motionOutcome(velocity [][2]api.Ratio, found bool, err api.Errno) string {
	out := text(velocity)
	if err == api.OK && found != (out != "") {
		return strconv.FormatBool(found) + " with " + out
	}
	return sample.Outcome(out, out == "" && !found, err)
}

// tooLarge is what the reference panics with.
const tooLarge = "too large"

// exact returns value. It panics if that is too large.
func exact(value api.Ratio, err api.Errno) api.Ratio {
	if err != api.OK {
		panic(tooLarge)
	}
	return value
}

// ifTooLarge calls note if the function in which it is deferred panics because a
// number is too large.
func ifTooLarge(note func()) {
	switch cause := recover(); cause {
	case nil:
	case tooLarge:
		note()
	default:
		panic(cause)
	}
}

// hasMatrix reports whether the matrix of s at the points is defined.
func hasMatrix(s api.Sketch, points [][2]api.Ratio) bool {
	isLong := func(p [2]api.Ratio) bool { return !sample.IsShort(p[0]) || !sample.IsShort(p[1]) }
	return sample.IsSketch(s) && len(points) == s.Points && !slices.ContainsFunc(points, isLong)
}

// A table has the elements of a matrix by their columns, and then by their rows.
type table [][]api.Ratio

// tableOf returns the matrix of s at the points.
func tableOf(s api.Sketch, points [][2]api.Ratio) table {
	out := make(table, 2*s.Points)
	for _, c := range s.Constraints {
		gradient, err := sketch.Gradient(c, points)
		if err != api.OK {
			panic("no gradient")
		}
		for _, derivatives := range gradient {
			for p, d := range derivatives {
				out[2*p] = append(out[2*p], d[0])
				out[2*p+1] = append(out[2*p+1], d[1])
			}
		}
	}
	return out
}

// reduce reduces the matrix as the chapter says, and returns the row in which each
// column has its pivot, or -1 for a free column.
func (m table) reduce() []int {
	zero := sample.Number("0")
	var out []int
	for column, elements := range m {
		r := 0
		for _, row := range out {
			if row >= 0 {
				r++
			}
		}
		found := r
		for found < len(elements) && elements[found] == zero {
			found++
		}
		if found == len(elements) {
			out = append(out, -1)
			continue
		}
		out = append(out, r)
		m.pivot(column, r, found)
	}
	return out
}

// pivot exchanges the row found with row r, divides this, and subtracts it from the
// others.
func (m table) pivot(column int, r int, found int) {
	for k := range m {
		m[k][found], m[k][r] = m[k][r], m[k][found]
	}
	element := m[column][r]
	for k := range m {
		m[k][r] = exact(rational.Div(m[k][r], element))
	}
	factors := slices.Clone(m[column])
	for i, factor := range factors {
		for k := range m {
			if i != r {
				m[k][i] = exact(rational.Sub(m[k][i], exact(rational.Mul(factor, m[k][r]))))
			}
		}
	}
}

// wantMotion returns what Motion is to return.
func wantMotion(s api.Sketch, points [][2]api.Ratio) (outcome string) {
	defer ifTooLarge(func() { outcome = refused })
	if !hasMatrix(s, points) {
		return refused
	}
	m := tableOf(s, points)
	rows := m.reduce()
	free := slices.Index(rows, -1)
	if free < 0 {
		return ""
	}
	velocity := make([][2]api.Ratio, s.Points)
	for column, row := range rows {
		element := &velocity[column/2][column%2]
		switch {
		case row >= 0:
			*element = exact(rational.Sub(sample.Number("0"), m[free][row]))
		case column == free:
			*element = sample.Number("1")
		default:
			*element = sample.Number("0")
		}
	}
	return text(velocity)
}

// wantMoves returns what Moves is to return, and whether it is false only because a
// number is too large.
func wantMoves(s api.Sketch, points [][2]api.Ratio, velocity [][2]api.Ratio) (moves bool, isTooLarge bool) {
	defer ifTooLarge(func() { moves, isTooLarge = false, true })
	zero := sample.Number("0")
	isMoving := false
	for _, v := range velocity {
		for _, r := range v {
			if !rational.Valid(r) {
				return false, false
			}
			isMoving = isMoving || r != zero
		}
	}
	if !hasMatrix(s, points) || len(velocity) != s.Points || !isMoving {
		return false, false
	}
	m := tableOf(s, points)
	keeps := true
	for i := range m[0] {
		sum := zero
		for p, v := range velocity {
			sum = exact(rational.Add(sum, exact(rational.Mul(v[0], m[2*p][i]))))
			sum = exact(rational.Add(sum, exact(rational.Mul(v[1], m[2*p+1][i]))))
		}
		keeps = keeps && sum == zero
	}
	return keeps, false
}

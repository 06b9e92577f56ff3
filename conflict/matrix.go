package conflict

import (
	"slices"

	"workpiece/api"
	"workpiece/rational"
	"workpiece/sketch"
)

var (
	zero = api.Ratio{Num: "0", Den: "1"}
	one  = api.Ratio{Num: "1", Den: "1"}
)

// isZero reports whether the value of r is 0.
func isZero(r api.Ratio) bool { return r == zero }

// A matrix has a row for each residual of each constraint of a sketch, and two
// columns for each point: the derivatives by its x and y.
type matrix struct {
	rows    [][]api.Ratio
	columns int
	// failed tells that a number was too large. Those that are calculated after it
	// mean nothing.
	failed bool
}

// matrixOf returns the matrix of s at the points, and false if it has none.
func matrixOf(s api.Sketch, points [][2]api.Ratio) (matrix, bool) {
	if !sketch.Valid(s) || len(points) != s.Points || !areShort(points) {
		return matrix{}, false
	}
	m := matrix{columns: 2 * s.Points}
	for _, c := range s.Constraints {
		gradient, err := sketch.Gradient(c, points)
		if err != api.OK {
			return matrix{}, false
		}
		for _, derivatives := range gradient {
			m.rows = append(m.rows, flat(derivatives))
		}
	}
	return m, true
}

// areShort reports whether all coordinates are short, so that points can be fixed
// there. There must not be more of them than a sketch has.
func areShort(points [][2]api.Ratio) bool {
	fixed := api.Sketch{Points: len(points)}
	for i, p := range points {
		fixed.Constraints = append(fixed.Constraints, api.Constraint{Kind: api.CFix, P: i, X: p[0], Y: p[1]})
	}
	return sketch.Valid(fixed)
}

// flat returns the fractions in pairs, in order.
func flat(pairs [][2]api.Ratio) []api.Ratio {
	var out []api.Ratio
	for _, pair := range pairs {
		out = append(out, pair[:]...)
	}
	return out
}

// isMoving reports whether all fractions in velocity are valid, and one is not 0.
func isMoving(velocity [][2]api.Ratio) bool {
	all := flat(velocity)
	isInvalid := func(r api.Ratio) bool { return !rational.Valid(r) }
	isNotZero := func(r api.Ratio) bool { return !isZero(r) }
	return !slices.ContainsFunc(all, isInvalid) && slices.ContainsFunc(all, isNotZero)
}

// exact returns value, and notes whether err says that it was too large.
func (m *matrix) exact(value api.Ratio, err api.Errno) api.Ratio {
	m.failed = m.failed || err != api.OK
	return value
}

// isKept reports whether the products of all rows with velocity are 0.
func (m *matrix) isKept(velocity [][2]api.Ratio) bool {
	factors := flat(velocity)
	for _, row := range m.rows {
		sum := zero
		for k, derivative := range row {
			product := m.exact(rational.Mul(factors[k], derivative))
			sum = m.exact(rational.Add(sum, product))
		}
		if m.failed || !isZero(sum) {
			return false
		}
	}
	return true
}

// A reduction is a matrix that is reduced from its first column on.
type reduction struct {
	matrix
	// pivots are the columns that have a pivot in the first row, the second one and
	// so on; free are those that have none.
	pivots []int
	free   []int
}

// reduced returns the reduction of m to its last column. The rows are those of m.
func (m matrix) reduced() reduction {
	r := reduction{matrix: m}
	for column := range r.columns {
		top := len(r.pivots)
		below := r.rows[top:]
		at := slices.IndexFunc(below, func(row []api.Ratio) bool { return !isZero(row[column]) })
		if at < 0 {
			r.free = append(r.free, column)
			continue
		}
		below[0], below[at] = below[at], below[0]
		r.pivots = append(r.pivots, column)
		r.clear(column, top)
	}
	return r
}

// clear makes the column 1 in the row with the index top, and 0 in all others.
func (r *reduction) clear(column int, top int) {
	pivot := r.rows[top]
	element := pivot[column]
	for k, value := range pivot {
		pivot[k] = r.exact(rational.Div(value, element))
	}
	eliminate := func(row []api.Ratio) {
		factor := row[column]
		for k, value := range row {
			product := r.exact(rational.Mul(factor, pivot[k]))
			row[k] = r.exact(rational.Sub(value, product))
		}
	}
	for i, row := range r.rows {
		// A row whose element is 0 would stay as it is, and nothing is too large.
		if i != top && !isZero(row[column]) {
			eliminate(row)
		}
	}
}

// motion returns the velocity with 1 for the first free column, and 0 for the other
// ones.
func (r *reduction) motion() [][2]api.Ratio {
	free := r.free[0]
	all := slices.Repeat([]api.Ratio{zero}, r.columns)
	all[free] = one
	for row, column := range r.pivots {
		all[column] = r.exact(rational.Sub(zero, r.rows[row][free]))
	}
	var out [][2]api.Ratio
	for pair := range slices.Chunk(all, 2) {
		out = append(out, [2]api.Ratio(pair))
	}
	return out
}

package sketch

import (
	"workpiece/api"
	"workpiece/rational"
	"workpiece/tower"
)

var (
	zero = api.Ratio{Num: "0", Den: "1"}
	one  = api.Ratio{Num: "1", Den: "1"}
)

// An operation returns what two numbers are combined to, or an error if that is
// too large.
type operation[T any] func(left T, right T) (T, api.Errno)

// An arithmetic calculates with numbers of some type, so that the same residuals
// are fractions, elements of a tower, or fractions with their derivatives.
type arithmetic[T any] struct {
	constant func(r api.Ratio) (T, api.Errno)
	add      operation[T]
	sub      operation[T]
	mul      operation[T]
}

func (a arithmetic[T]) plus(left T, right T) T  { return must(a.add(left, right)) }
func (a arithmetic[T]) minus(left T, right T) T { return must(a.sub(left, right)) }
func (a arithmetic[T]) times(left T, right T) T { return must(a.mul(left, right)) }

// fractions returns the arithmetic of fractions.
func fractions() arithmetic[api.Ratio] {
	return arithmetic[api.Ratio]{
		constant: func(r api.Ratio) (api.Ratio, api.Errno) { return r, api.OK },
		add:      rational.Add,
		sub:      rational.Sub,
		mul:      rational.Mul,
	}
}

// elements returns the arithmetic of the elements of t. It refuses everything if t
// is not valid.
func elements(t api.Tower) arithmetic[[]api.Ratio] {
	type binary = func(t api.Tower, left []api.Ratio, right []api.Ratio) ([]api.Ratio, api.Errno)
	in := func(operate binary) operation[[]api.Ratio] {
		return func(left []api.Ratio, right []api.Ratio) ([]api.Ratio, api.Errno) { return operate(t, left, right) }
	}
	return arithmetic[[]api.Ratio]{
		constant: func(r api.Ratio) ([]api.Ratio, api.Errno) { return tower.FromRatio(t, r) },
		add:      in(tower.Add),
		sub:      in(tower.Sub),
		mul:      in(tower.Mul),
	}
}

// A drawing is a list of points, and the arithmetic of their coordinates.
type drawing[T any] struct {
	arithmetic[T]
	points [][2]T
}

// along returns the function that returns the difference of two points along an
// axis.
func (d drawing[T]) along(axis int) func(to int, from int) T {
	return func(to int, from int) T { return d.minus(d.points[to][axis], d.points[from][axis]) }
}

// square returns the square of the distance of two points.
func (d drawing[T]) square(to int, from int) T {
	dx, dy := d.along(0)(to, from), d.along(1)(to, from)
	return d.plus(d.times(dx, dx), d.times(dy, dy))
}

// residuals returns the left-hand sides of the equations of the valid constraint
// c. The order of the operations decides what is too large.
func (d drawing[T]) residuals(c api.Constraint) []T {
	dx, dy := d.along(0), d.along(1)
	switch c.Kind {
	case api.CFix:
		x := d.minus(d.points[c.P][0], must(d.constant(c.X)))
		y := d.minus(d.points[c.P][1], must(d.constant(c.Y)))
		return []T{x, y}
	case api.CDistance:
		length := must(rational.Mul(c.Value, c.Value))
		return []T{d.minus(d.square(c.P, c.Q), must(d.constant(length)))}
	case api.CHorizontal:
		return []T{dy(c.P, c.Q)}
	case api.CVertical:
		return []T{dx(c.P, c.Q)}
	case api.COnLine:
		return []T{d.minus(d.times(dx(c.P, c.Q), dy(c.R, c.Q)), d.times(dy(c.P, c.Q), dx(c.R, c.Q)))}
	case api.CPerpendicular:
		return []T{d.plus(d.times(dx(c.Q, c.P), dx(c.S, c.R)), d.times(dy(c.Q, c.P), dy(c.S, c.R)))}
	case api.CMidpoint:
		return []T{d.minus(dx(c.P, c.Q), dx(c.R, c.P)), d.minus(dy(c.P, c.Q), dy(c.R, c.P))}
	}
	return []T{d.minus(d.square(c.P, c.Q), d.square(c.P, c.R))}
}

// A varying is a fraction that depends on a coordinate, and its derivative.
type varying struct {
	value api.Ratio
	slope api.Ratio
}

// varyings returns the arithmetic of fractions with their derivatives.
func varyings() arithmetic[varying] {
	exact := fractions()
	return arithmetic[varying]{
		constant: func(r api.Ratio) (varying, api.Errno) { return varying{r, zero}, api.OK },
		add: func(left varying, right varying) (varying, api.Errno) {
			return varying{exact.plus(left.value, right.value), exact.plus(left.slope, right.slope)}, api.OK
		},
		sub: func(left varying, right varying) (varying, api.Errno) {
			return varying{exact.minus(left.value, right.value), exact.minus(left.slope, right.slope)}, api.OK
		},
		mul: func(left varying, right varying) (varying, api.Errno) {
			slope := exact.plus(exact.times(left.slope, right.value), exact.times(left.value, right.slope))
			return varying{exact.times(left.value, right.value), slope}, api.OK
		},
	}
}

// slopes returns the derivatives of the residuals of c by the coordinate of a
// point along an axis.
func slopes(c api.Constraint, points [][2]api.Ratio, point int, axis int) []api.Ratio {
	d := drawing[varying]{arithmetic: varyings()}
	for _, p := range points {
		d.points = append(d.points, [2]varying{{p[0], zero}, {p[1], zero}})
	}
	d.points[point][axis].slope = one
	var out []api.Ratio
	for _, v := range d.residuals(c) {
		out = append(out, v.slope)
	}
	return out
}

// gradients returns, for each residual of c, its derivatives by the coordinates of
// all points.
func gradients(c row, points [][2]api.Ratio) [][][2]api.Ratio {
	out := make([][][2]api.Ratio, c.equations)
	for i := range out {
		for range points {
			out[i] = append(out[i], [2]api.Ratio{zero, zero})
		}
	}
	for _, point := range c.uses() {
		for axis := range 2 {
			for i, slope := range slopes(c.Constraint, points, point, axis) {
				out[i][point][axis] = slope
			}
		}
	}
	return out
}

package solve_test

import (
	"math/big"
	"strings"

	"workpiece/api"
	"workpiece/cluster"
	"workpiece/rational"
	"workpiece/sample"
	"workpiece/sketch"
	"workpiece/tower"
)

// refused is the outcome of a call that returns ErrSolve.
var refused = sample.Failure(api.ErrSolve)

// text returns the text of an element.
func text(a []api.Ratio) string {
	var words []string
	for _, r := range a {
		words = append(words, rational.Print(r))
	}
	return strings.Join(words, " ")
}

// solutionText returns the text of a solution: its radicands, and its points.
func solutionText(x api.Solution) string {
	var radicands, points []string
	for _, d := range x.Tower.Radicands {
		radicands = append(radicands, text(d))
	}
	for _, p := range x.Points {
		points = append(points, text(p[0])+", "+text(p[1]))
	}
	return "<" + strings.Join(radicands, "; ") + "> " + strings.Join(points, "; ")
}

// solveOutcome returns the text of what Solve returns.
func solveOutcome(list []api.Solution, err api.Errno) string {
	var out []string
	for _, x := range list {
		out = append(out, solutionText(x))
	}
	return sample.Outcome(strings.Join(out, " | "), len(list) == 0, err)
}

// roundOutcome returns the text of what Round returns.
func roundOutcome(points [][2]api.Ratio, err api.Errno) string {
	var out []string
	for _, p := range points {
		out = append(out, text(p[:1])+", "+text(p[1:]))
	}
	return sample.Outcome(strings.Join(out, "; "), len(points) == 0, err)
}

// A scope is one in which loci are intersected.
type scope struct{ sample.Scope }

// embedded returns the scope with the same values in the tower t.
func (s scope) embedded(t api.Tower) scope {
	out := scope{sample.ScopeOf(t)}
	for name, value := range s.Values {
		out.Values[name] = sample.Needed(tower.Embed(t, value))
	}
	return out
}

// An intersection is a list of points, and the tower of their coordinates.
type intersection struct {
	tower  api.Tower
	points [][2][]api.Ratio
}

// degenerate reports whether the line with the names that end in a suffix is
// degenerate.
func (s scope) degenerate(suffix string) bool {
	return s.Sign("a"+suffix) == 0 && s.Sign("b"+suffix) == 0
}

// lines returns the intersection of the lines 1 and 2.
func (s scope) lines() intersection {
	one := s.degenerate("1")
	two := s.degenerate("2")
	if one || two {
		if one && s.Sign("c1") != 0 || two && s.Sign("c2") != 0 {
			return intersection{}
		}
		panic(sample.Refusal("degenerate"))
	}
	s.Let("d p q", "a1 * b2 - a2 * b1", "b1 * c2 - b2 * c1", "c1 * a2 - c2 * a1")
	if s.Sign("d") == 0 {
		if s.Sign("p") != 0 || s.Sign("q") != 0 {
			return intersection{}
		}
		panic(sample.Refusal("parallel"))
	}
	return intersection{s.Tower, [][2][]api.Ratio{{s.Value("p / d"), s.Value("q / d")}}}
}

// lineAndCircle returns the intersection of the line (a, b, c) and the circle
// (u, v, R).
func (s scope) lineAndCircle() intersection {
	if s.degenerate("") {
		if s.Sign("c") != 0 {
			return intersection{}
		}
		panic(sample.Refusal("degenerate"))
	}
	s.Let("m e", "a * a + b * b", "a * u + b * v + c")
	s.Let("D x0 y0", "R * m - e * e", "u - (a * e) / m", "v - (b * e) / m")
	switch s.Sign("D") {
	case -1:
		return intersection{}
	case 0:
		return intersection{s.Tower, [][2][]api.Ratio{{s.Values["x0"], s.Values["y0"]}}}
	}
	w := s.withRoot()
	w.Let("dx dy", "(b * s) / m", "(a * s) / m")
	p := [2][]api.Ratio{w.Value("x0 + dx"), w.Value("y0 - dy")}
	q := [2][]api.Ratio{w.Value("x0 - dx"), w.Value("y0 + dy")}
	order := sample.Needed(tower.Compare(w.Tower, p[0], q[0]))
	if order == 0 {
		order = sample.Needed(tower.Compare(w.Tower, p[1], q[1]))
	}
	if order > 0 {
		p, q = q, p
	}
	return intersection{w.Tower, [][2][]api.Ratio{p, q}}
}

// withRoot returns the scope in which s is the square root of D.
func (s scope) withRoot() scope {
	if r, ok := tower.Rational(s.Tower, s.Values["D"]); ok {
		if root, ok := squareRoot(r); ok {
			s.Values["s"] = sample.Needed(tower.FromRatio(s.Tower, root))
			return s
		}
	}
	w := s.embedded(sample.Needed(tower.Extend(s.Tower, s.Values["D"])))
	w.Values["s"] = sample.Needed(tower.Root(w.Tower))
	return w
}

// squareRoot returns the positive fraction whose square is r, and false if there is
// none.
func squareRoot(r api.Ratio) (api.Ratio, bool) {
	square, _ := new(big.Rat).SetString(r.Num + "/" + r.Den)
	root := new(big.Rat).SetFrac(new(big.Int).Sqrt(square.Num()), new(big.Int).Sqrt(square.Denom()))
	isExact := new(big.Rat).Mul(root, root).Cmp(square) == 0
	return api.Ratio{Num: root.Num().String(), Den: root.Denom().String()}, isExact
}

// circles returns the intersection of the circles 1 and 2.
func (s scope) circles() intersection {
	s.Let("du dv", "u2 - u1", "v2 - v1")
	if s.Sign("du") == 0 && s.Sign("dv") == 0 {
		s.Let("dR", "R1 - R2")
		if s.Sign("dR") != 0 {
			return intersection{}
		}
		panic(sample.Refusal("concentric"))
	}
	s.Let("a b c", "2 * (u2 - u1)", "2 * (v2 - v1)", "u1^2 + v1^2 - R1 - u2^2 - v2^2 + R2")
	s.Let("u v R", "u1", "v1", "R1")
	return s.lineAndCircle()
}

// A row of the table of the chapter has names, and formulas for them.
type row [2]string

// locusRow returns the row for the point p and the constraint c.
func locusRow(c api.Constraint, p int) row {
	const line, circle = "a b c", "u v R"
	isFirst := p == c.P || p == c.Q
	switch {
	case c.Kind == 2:
		return row{circle, "xO, yO, Value^2"}
	case c.Kind == 3:
		return row{line, "0, 1, -yO"}
	case c.Kind == 4:
		return row{line, "1, 0, -xO"}
	case c.Kind == 5:
		return row{line, "yB - yA, xA - xB, -(xA * a + yA * b)"}
	case c.Kind == 6 && isFirst:
		return row{line, "xS - xR, yS - yR, -(xO * a + yO * b)"}
	case c.Kind == 6:
		return row{line, "xQ - xP, yQ - yP, -(xO * a + yO * b)"}
	case p == c.P:
		return row{line, "2 * (xR - xQ), 2 * (yR - yQ), xQ^2 + yQ^2 - xR^2 - yR^2"}
	}
	return row{circle, "xP, yP, (xP - xO)^2 + (yP - yO)^2"}
}

// A placement is a branch: the coordinates of the points that are placed.
type placement struct {
	tower  api.Tower
	points map[int][2][]api.Ratio
}

// scope returns the scope in which the points that c uses have names, apart from p:
// P to S; O for the other one of a pair with p; A and B for the other ones of three.
func (b placement) scope(c api.Constraint, p int) scope {
	s := scope{sample.ScopeOf(b.tower)}
	name := func(letter string, point int) {
		s.Values["x"+letter], s.Values["y"+letter] = b.points[point][0], b.points[point][1]
	}
	var others []int
	for k, i := range sample.Indices(c) {
		if i == p {
			continue
		}
		name("PQRS"[k:k+1], i)
		// In a CMidpoint and a CEqual the pair is Q and R.
		if c.Kind != 6 || (k < 2) == (p == c.P || p == c.Q) {
			name("O", i)
		}
		others = append(others, i)
	}
	if len(others) == 2 {
		name("A", others[0])
		name("B", others[1])
	}
	if c.Kind == 2 {
		s.Values["Value"] = s.Constant(rational.Print(c.Value))
	}
	return s
}

// locus gives the numbers of the locus of p by c to their names in s, with a suffix.
// It reports whether the locus is a line.
func (b placement) locus(s scope, c api.Constraint, p int, suffix string) bool {
	r, own := locusRow(c, p), b.scope(c, p)
	own.Let(r[0], strings.Split(r[1], ",")...)
	for _, name := range strings.Fields(r[0]) {
		s.Values[name+suffix] = own.Values[name]
	}
	return r[0] == "a b c"
}

// positions returns the positions of the point of step.
func (b placement) positions(list []api.Constraint, step api.Step) intersection {
	c := list[step.First]
	if step.Second == -1 {
		s := b.scope(c, step.Point)
		x, y := "(xQ + xR) / 2", "(yQ + yR) / 2"
		switch {
		case c.Kind == 1:
			s.Values["x"], s.Values["y"] = s.Constant(rational.Print(c.X)), s.Constant(rational.Print(c.Y))
			x, y = "x", "y"
		case c.P != step.Point:
			x, y = "2 * xP - xO", "2 * yP - yO"
		}
		return intersection{b.tower, [][2][]api.Ratio{{s.Value(x), s.Value(y)}}}
	}
	s := scope{sample.ScopeOf(b.tower)}
	firstIsLine := b.locus(s, c, step.Point, "1")
	secondIsLine := b.locus(s, list[step.Second], step.Point, "2")
	switch {
	case firstIsLine && secondIsLine:
		return s.lines()
	case !firstIsLine && !secondIsLine:
		return s.circles()
	case firstIsLine:
		s.Let("a b c u v R", "a1", "b1", "c1", "u2", "v2", "R2")
	default:
		s.Let("a b c u v R", "a2", "b2", "c2", "u1", "v1", "R1")
	}
	return s.lineAndCircle()
}

// next returns the branches by which b is replaced at a step.
func (b placement) next(list []api.Constraint, step api.Step) []placement {
	var out []placement
	found := b.positions(list, step)
	for _, position := range found.points {
		points := map[int][2][]api.Ratio{step.Point: position}
		for i, p := range b.points {
			points[i] = [2][]api.Ratio{sample.Needed(tower.Embed(found.tower, p[0])), sample.Needed(tower.Embed(found.tower, p[1]))}
		}
		out = append(out, placement{found.tower, points})
	}
	return out
}

// solution returns the points of b, and whether all constraints hold.
func (b placement) solution(s api.Sketch) (api.Solution, bool) {
	x := api.Solution{Tower: b.tower}
	for i := range s.Points {
		x.Points = append(x.Points, b.points[i])
	}
	broken, tooLarge := 0, 0
	for _, c := range s.Constraints {
		holds, err := sketch.Holds(c, b.tower, x.Points)
		if !holds {
			broken++
		}
		if err != api.OK {
			tooLarge++
		}
	}
	if tooLarge > 0 {
		panic(sample.Refusal("too large to check"))
	}
	return x, broken == 0
}

// wantSolutions returns what Solve is to return, and otherwise the reason for
// ErrSolve.
func wantSolutions(s api.Sketch) (out []api.Solution, reason sample.Refusal) {
	defer func() {
		switch cause := recover().(type) {
		case nil:
		case sample.Refusal:
			out, reason = nil, cause
		default:
			panic(cause)
		}
	}()
	if !sample.IsSketch(s) {
		return nil, "not valid"
	}
	plan := sample.Needed(cluster.Plan(s))
	if len(plan.Unplaced) > 0 {
		return nil, "unplaced"
	}
	branches := []placement{{}}
	for _, step := range plan.Steps {
		var after []placement
		for _, b := range branches {
			after = append(after, b.next(s.Constraints, step)...)
		}
		if len(after) > 16 {
			return nil, "branches"
		}
		branches = after
	}
	for _, b := range branches {
		if x, holds := b.solution(s); holds {
			out = append(out, x)
		}
	}
	return out, ""
}

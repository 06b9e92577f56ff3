package solve_test

import (
	"math/big"
	"regexp"
	"strings"

	"workpiece/api"
	"workpiece/cluster"
	"workpiece/rational"
	"workpiece/sample"
	"workpiece/sketch"
	"workpiece/tower"
)

// refused is the outcome of a call that returns ErrSolve.
var refused = sample.Failure(api.ErrSolve)

// text returns the text of an element.
func text(a []api.Ratio) string {
	var words []string
	for _, r := range a {
		words = append(words, rational.Print(r))
	}
	return strings.Join(words, " ")
}

// solutionText returns the text of a solution: its radicands, and its points.
func solutionText(x api.Solution) string {
	var radicands, points []string
	for _, d := range x.Tower.Radicands {
		radicands = append(radicands, text(d))
	}
	for _, p := range x.Points {
		points = append(points, text(p[0])+", "+text(p[1]))
	}
	return "<" + strings.Join(radicands, "; ") + "> " + strings.Join(points, "; ")
}

// solveOutcome returns the text of what Solve returns.
func solveOutcome(list []api.Solution, err api.Errno) string {
	var out []string
	for _, x := range list {
		out = append(out, solutionText(x))
	}
	return sample.Outcome(strings.Join(out, " | "), len(list) == 0, err)
}

// roundOutcome returns the text of what Round returns.
func roundOutcome(points [][2]api.Ratio, err api.Errno) string {
	var out []string
	for _, p := range points {
		out = append(out, text(p[:1])+", "+text(p[1:]))
	}
	return sample.Outcome(strings.Join(out, "; "), len(points) == 0, err)
}

// A refusal is what the reference panics with if there are no solutions, with the
// reason.
type refusal string

// needed returns value, which a function of a lower layer has returned.
func needed[T any](value T, err api.Errno) T {
	if err != api.OK {
		panic(refusal("too large"))
	}
	return value
}

// A scope is a tower, and the elements that have names in formulas.
type scope struct {
	tower  api.Tower
	values map[string][]api.Ratio
}

// let gives the values of formulas to names, in order.
func (s scope) let(names string, formulas ...string) {
	for i, name := range strings.Fields(names) {
		s.values[name] = s.value(formulas[i])
	}
}

// sign returns the sign of the element with a name.
func (s scope) sign(name string) int { return needed(tower.Sign(s.tower, s.values[name])) }

// words are the parts of formulas.
var words = regexp.MustCompile(`[A-Za-z]+[0-9]*|[0-9]+|\S`)

// value returns the value of a formula of the chapter.
func (s scope) value(formula string) []api.Ratio {
	rest := words.FindAllString(formula, -1)
	value := s.sum(&rest)
	if len(rest) > 0 {
		panic("not a formula: " + formula)
	}
	return value
}

// next removes the first word of rest if it is among the given ones, and returns it.
func next(rest *[]string, among string) string {
	if len(*rest) == 0 || !strings.Contains(among, (*rest)[0]) {
		return ""
	}
	word := (*rest)[0]
	*rest = (*rest)[1:]
	return word
}

func (s scope) sum(rest *[]string) []api.Ratio {
	value := s.product(rest)
	for {
		switch next(rest, "+-") {
		case "+":
			value = needed(tower.Add(s.tower, value, s.product(rest)))
		case "-":
			value = needed(tower.Sub(s.tower, value, s.product(rest)))
		default:
			return value
		}
	}
}

func (s scope) product(rest *[]string) []api.Ratio {
	value := s.factor(rest)
	for {
		switch next(rest, "*/^") {
		case "*":
			value = needed(tower.Mul(s.tower, value, s.factor(rest)))
		case "/":
			value = needed(tower.Mul(s.tower, value, needed(tower.Inverse(s.tower, s.factor(rest)))))
		case "^":
			next(rest, "2")
			value = needed(tower.Mul(s.tower, value, value))
		default:
			return value
		}
	}
}

func (s scope) factor(rest *[]string) []api.Ratio {
	if next(rest, "-") != "" {
		return needed(tower.Sub(s.tower, s.constant("0"), s.factor(rest)))
	}
	if next(rest, "(") != "" {
		value := s.sum(rest)
		next(rest, ")")
		return value
	}
	word := (*rest)[0]
	*rest = (*rest)[1:]
	if value, ok := s.values[word]; ok {
		return value
	}
	return s.constant(word)
}

// constant returns the element with a text.
func (s scope) constant(word string) []api.Ratio {
	return needed(tower.FromRatio(s.tower, sample.Number(word)))
}

// embedded returns the scope with the same values in the tower t.
func (s scope) embedded(t api.Tower) scope {
	out := scope{t, map[string][]api.Ratio{}}
	for name, value := range s.values {
		out.values[name] = needed(tower.Embed(t, value))
	}
	return out
}

// An intersection is a list of points, and the tower of their coordinates.
type intersection struct {
	tower  api.Tower
	points [][2][]api.Ratio
}

// degenerate reports whether the line with the names that end in a suffix is
// degenerate.
func (s scope) degenerate(suffix string) bool {
	return s.sign("a"+suffix) == 0 && s.sign("b"+suffix) == 0
}

// lines returns the intersection of the lines 1 and 2.
func (s scope) lines() intersection {
	one := s.degenerate("1")
	two := s.degenerate("2")
	if one || two {
		if one && s.sign("c1") != 0 || two && s.sign("c2") != 0 {
			return intersection{}
		}
		panic(refusal("degenerate"))
	}
	s.let("d p q", "a1 * b2 - a2 * b1", "b1 * c2 - b2 * c1", "c1 * a2 - c2 * a1")
	if s.sign("d") == 0 {
		if s.sign("p") != 0 || s.sign("q") != 0 {
			return intersection{}
		}
		panic(refusal("parallel"))
	}
	return intersection{s.tower, [][2][]api.Ratio{{s.value("p / d"), s.value("q / d")}}}
}

// lineAndCircle returns the intersection of the line (a, b, c) and the circle
// (u, v, R).
func (s scope) lineAndCircle() intersection {
	if s.degenerate("") {
		if s.sign("c") != 0 {
			return intersection{}
		}
		panic(refusal("degenerate"))
	}
	s.let("m e", "a * a + b * b", "a * u + b * v + c")
	s.let("D x0 y0", "R * m - e * e", "u - (a * e) / m", "v - (b * e) / m")
	switch s.sign("D") {
	case -1:
		return intersection{}
	case 0:
		return intersection{s.tower, [][2][]api.Ratio{{s.values["x0"], s.values["y0"]}}}
	}
	w := s.withRoot()
	w.let("dx dy", "(b * s) / m", "(a * s) / m")
	p := [2][]api.Ratio{w.value("x0 + dx"), w.value("y0 - dy")}
	q := [2][]api.Ratio{w.value("x0 - dx"), w.value("y0 + dy")}
	order := needed(tower.Compare(w.tower, p[0], q[0]))
	if order == 0 {
		order = needed(tower.Compare(w.tower, p[1], q[1]))
	}
	if order > 0 {
		p, q = q, p
	}
	return intersection{w.tower, [][2][]api.Ratio{p, q}}
}

// withRoot returns the scope in which s is the square root of D.
func (s scope) withRoot() scope {
	if r, ok := tower.Rational(s.tower, s.values["D"]); ok {
		if root, ok := squareRoot(r); ok {
			s.values["s"] = needed(tower.FromRatio(s.tower, root))
			return s
		}
	}
	w := s.embedded(needed(tower.Extend(s.tower, s.values["D"])))
	w.values["s"] = needed(tower.Root(w.tower))
	return w
}

// squareRoot returns the positive fraction whose square is r, and false if there is
// none.
func squareRoot(r api.Ratio) (api.Ratio, bool) {
	square, _ := new(big.Rat).SetString(r.Num + "/" + r.Den)
	root := new(big.Rat).SetFrac(new(big.Int).Sqrt(square.Num()), new(big.Int).Sqrt(square.Denom()))
	isExact := new(big.Rat).Mul(root, root).Cmp(square) == 0
	return api.Ratio{Num: root.Num().String(), Den: root.Denom().String()}, isExact
}

// circles returns the intersection of the circles 1 and 2.
func (s scope) circles() intersection {
	s.let("du dv", "u2 - u1", "v2 - v1")
	if s.sign("du") == 0 && s.sign("dv") == 0 {
		s.let("dR", "R1 - R2")
		if s.sign("dR") != 0 {
			return intersection{}
		}
		panic(refusal("concentric"))
	}
	s.let("a b c", "2 * (u2 - u1)", "2 * (v2 - v1)", "u1^2 + v1^2 - R1 - u2^2 - v2^2 + R2")
	s.let("u v R", "u1", "v1", "R1")
	return s.lineAndCircle()
}

// A row of the table of the chapter has names, and formulas for them.
type row [2]string

// locusRow returns the row for the point p and the constraint c.
func locusRow(c api.Constraint, p int) row {
	const line, circle = "a b c", "u v R"
	isFirst := p == c.P || p == c.Q
	switch {
	case c.Kind == 2:
		return row{circle, "xO, yO, Value^2"}
	case c.Kind == 3:
		return row{line, "0, 1, -yO"}
	case c.Kind == 4:
		return row{line, "1, 0, -xO"}
	case c.Kind == 5:
		return row{line, "yB - yA, xA - xB, -(xA * a + yA * b)"}
	case c.Kind == 6 && isFirst:
		return row{line, "xS - xR, yS - yR, -(xO * a + yO * b)"}
	case c.Kind == 6:
		return row{line, "xQ - xP, yQ - yP, -(xO * a + yO * b)"}
	case p == c.P:
		return row{line, "2 * (xR - xQ), 2 * (yR - yQ), xQ^2 + yQ^2 - xR^2 - yR^2"}
	}
	return row{circle, "xP, yP, (xP - xO)^2 + (yP - yO)^2"}
}

// A placement is a branch: the coordinates of the points that are placed.
type placement struct {
	tower  api.Tower
	points map[int][2][]api.Ratio
}

// scope returns the scope in which the points that c uses have names, apart from p:
// P to S; O for the other one of a pair with p; A and B for the other ones of three.
func (b placement) scope(c api.Constraint, p int) scope {
	s := scope{b.tower, map[string][]api.Ratio{}}
	name := func(letter string, point int) {
		s.values["x"+letter], s.values["y"+letter] = b.points[point][0], b.points[point][1]
	}
	var others []int
	for k, i := range sample.Indices(c) {
		if i == p {
			continue
		}
		name("PQRS"[k:k+1], i)
		// In a CMidpoint and a CEqual the pair is Q and R.
		if c.Kind != 6 || (k < 2) == (p == c.P || p == c.Q) {
			name("O", i)
		}
		others = append(others, i)
	}
	if len(others) == 2 {
		name("A", others[0])
		name("B", others[1])
	}
	if c.Kind == 2 {
		s.values["Value"] = s.constant(rational.Print(c.Value))
	}
	return s
}

// locus gives the numbers of the locus of p by c to their names in s, with a suffix.
// It reports whether the locus is a line.
func (b placement) locus(s scope, c api.Constraint, p int, suffix string) bool {
	r, own := locusRow(c, p), b.scope(c, p)
	own.let(r[0], strings.Split(r[1], ",")...)
	for _, name := range strings.Fields(r[0]) {
		s.values[name+suffix] = own.values[name]
	}
	return r[0] == "a b c"
}

// positions returns the positions of the point of step.
func (b placement) positions(list []api.Constraint, step api.Step) intersection {
	c := list[step.First]
	if step.Second == -1 {
		s := b.scope(c, step.Point)
		x, y := "(xQ + xR) / 2", "(yQ + yR) / 2"
		switch {
		case c.Kind == 1:
			s.values["x"], s.values["y"] = s.constant(rational.Print(c.X)), s.constant(rational.Print(c.Y))
			x, y = "x", "y"
		case c.P != step.Point:
			x, y = "2 * xP - xO", "2 * yP - yO"
		}
		return intersection{b.tower, [][2][]api.Ratio{{s.value(x), s.value(y)}}}
	}
	s := scope{b.tower, map[string][]api.Ratio{}}
	firstIsLine := b.locus(s, c, step.Point, "1")
	secondIsLine := b.locus(s, list[step.Second], step.Point, "2")
	switch {
	case firstIsLine && secondIsLine:
		return s.lines()
	case !firstIsLine && !secondIsLine:
		return s.circles()
	case firstIsLine:
		s.let("a b c u v R", "a1", "b1", "c1", "u2", "v2", "R2")
	default:
		s.let("a b c u v R", "a2", "b2", "c2", "u1", "v1", "R1")
	}
	return s.lineAndCircle()
}

// next returns the branches by which b is replaced at a step.
func (b placement) next(list []api.Constraint, step api.Step) []placement {
	var out []placement
	found := b.positions(list, step)
	for _, position := range found.points {
		points := map[int][2][]api.Ratio{step.Point: position}
		for i, p := range b.points {
			points[i] = [2][]api.Ratio{needed(tower.Embed(found.tower, p[0])), needed(tower.Embed(found.tower, p[1]))}
		}
		out = append(out, placement{found.tower, points})
	}
	return out
}

// solution returns the points of b, and whether all constraints hold.
func (b placement) solution(s api.Sketch) (api.Solution, bool) {
	x := api.Solution{Tower: b.tower}
	for i := range s.Points {
		x.Points = append(x.Points, b.points[i])
	}
	broken, tooLarge := 0, 0
	for _, c := range s.Constraints {
		holds, err := sketch.Holds(c, b.tower, x.Points)
		if !holds {
			broken++
		}
		if err != api.OK {
			tooLarge++
		}
	}
	if tooLarge > 0 {
		panic(refusal("too large to check"))
	}
	return x, broken == 0
}

// wantSolutions returns what Solve is to return, and otherwise the reason for
// ErrSolve.
func wantSolutions(s api.Sketch) (out []api.Solution, reason refusal) {
	defer func() {
		switch cause := recover().(type) {
		case nil:
		case refusal:
			out, reason = nil, cause
		default:
			panic(cause)
		}
	}()
	if !sample.IsSketch(s) {
		return nil, "not valid"
	}
	plan := needed(cluster.Plan(s))
	if len(plan.Unplaced) > 0 {
		return nil, "unplaced"
	}
	branches := []placement{{}}
	for _, step := range plan.Steps {
		var after []placement
		for _, b := range branches {
			after = append(after, b.next(s.Constraints, step)...)
		}
		if len(after) > 16 {
			return nil, "branches"
		}
		branches = after
	}
	for _, b := range branches {
		if x, holds := b.solution(s); holds {
			out = append(out, x)
		}
	}
	return out, ""
}

package expr_test

import (
	"regexp"
	"strconv"
	"strings"
	"testing"

	"workpiece/api"
	"workpiece/expr"
	"workpiece/rational"
	"workpiece/sample"
)

// wantText returns the text of the node i of e, or refused if it has more than 2000
// bytes.
func wantText(e api.Expr, i int) string {
	if sizeOf(e)[i] > 2000 {
		return refused
	}
	n := e.Nodes[i]
	between := map[int]string{api.EAdd: " + ", api.ESub: " - ", api.EMul: " * ", api.EDiv: " / "}
	switch n.Op {
	case api.EConst:
		return rational.Print(n.Value) + map[int]string{0: "", 1: "m", 2: "m2", 3: "m3"}[n.Dim]
	case api.EParam:
		return "p" + strconv.Itoa(n.Param)
	}
	return "(" + wantText(e, n.Left) + between[n.Op] + wantText(e, n.Right) + ")"
}

// sizeOf returns the sizes of the texts of all nodes of e.
func sizeOf(e api.Expr) []int {
	var out []int
	for i, n := range e.Nodes {
		switch n.Op {
		case api.EConst, api.EParam:
			out = append(out, len(wantLeaf(e, i)))
		default:
			out = append(out, out[n.Left]+out[n.Right]+5)
		}
	}
	return out
}

// wantLeaf returns the text of the node i of e, which is a constant or a parameter.
func wantLeaf(e api.Expr, i int) string {
	n := e.Nodes[i]
	if n.Op == api.EParam {
		return "p" + strconv.Itoa(n.Param)
	}
	return rational.Print(n.Value) + []string{"", "m", "m2", "m3"}[n.Dim]
}

// parts returns how many nodes the text of each node of e has.
func parts(e api.Expr) []int {
	var out []int
	for _, n := range e.Nodes {
		if n.Op < api.EAdd {
			out = append(out, 1)
			continue
		}
		out = append(out, out[n.Left]+out[n.Right]+1)
	}
	return out
}

var leafForm = regexp.MustCompile(`^(?:p([0-9]+)|(-?[0-9]+(?:/[0-9]+)?)(?:m([23]?))?)$`)

// readLeaf returns the node with the text s, which must not have parentheses.
func readLeaf(s string) (api.ExprNode, bool) {
	found := leafForm.FindStringSubmatch(s)
	switch {
	case found == nil:
		return api.ExprNode{}, false
	case s[0] == 'p':
		index, err := strconv.Atoi(found[1])
		return parameter(index), err == nil && strconv.Itoa(index) == found[1]
	}
	r, err := rational.Parse(found[2])
	n := api.ExprNode{Op: api.EConst, Value: r}
	if strings.Contains(s, "m") {
		n.Dim = 1
		if found[3] != "" {
			n.Dim = int(found[3][0] - '0')
		}
	}
	return n, err == api.OK
}

// read returns the nodes with the text s, found by dividing it wherever it can be
// divided, and whether there are any.
func read(s string) ([]api.ExprNode, bool) {
	if !strings.HasPrefix(s, "(") {
		n, ok := readLeaf(s)
		return []api.ExprNode{n}, ok
	}
	inner, closed := strings.CutSuffix(s[1:], ")")
	depth := 0
	for i := 0; i+3 <= len(inner) && closed; i++ {
		switch inner[i] {
		case '(':
			depth++
		case ')':
			depth--
		}
		op := strings.Index(" +  -  *  / ", inner[i:i+3])
		if depth != 0 || op < 0 || op%3 != 0 {
			continue
		}
		left, okLeft := read(inner[:i])
		right, okRight := read(inner[i+3:])
		if okLeft && okRight {
			return joined(left, right, api.EAdd+op/3), true
		}
	}
	return nil, false
}

// joined returns the nodes left, right, and an operation on both of them.
func joined(left, right []api.ExprNode, op int) []api.ExprNode {
	out := append([]api.ExprNode{}, left...)
	for _, n := range right {
		if n.Op >= api.EAdd {
			n.Left += len(left)
			n.Right += len(left)
		}
		out = append(out, n)
	}
	return append(out, combined(op, len(left)-1, len(left)+len(right)-1))
}

// wantParsed returns the outcome of Parse of s.
func wantParsed(s string, params []api.Param) string {
	nodes, ok := read(s)
	if !ok || len(s) > 2000 || wantDim(of(nodes...), params) == refused {
		return refused
	}
	return nodesText(of(nodes...))
}

// checkParse checks Parse of s, and Print of what it returns.
func checkParse(t *testing.T, s string, params []api.Param) {
	t.Helper()
	want := wantParsed(s, params)
	e, err := expr.Parse(s, params)
	if got := exprOutcome(e, err); got != want {
		t.Errorf("Parse(%.300q) = %.300s instead of %.300s", s, got, want)
	}
	if err != api.OK {
		return
	}
	if got := textOutcome(expr.Print(e, params)); got != s {
		t.Errorf("Print of Parse(%.300q) = %.300q", s, got)
	}
}

// P8.1 and P8.6: all short strings.
func TestParseShort(t *testing.T) {
	for _, s := range sample.Strings("(p01m2 )-/", 5) {
		checkParse(t, s, pair())
	}
	for _, s := range sample.Strings("(0 +)", 7) {
		checkParse(t, s, pair())
	}
	for _, middle := range sample.Strings(" +-*/", 4) {
		checkParse(t, "(p0"+middle+"p0)", pair())
		checkParse(t, "(1"+middle+"1)", pair())
		checkParse(t, "(1m2"+middle+"-1m)", pair())
	}
}

// P8.1: the texts of constants and parameters.
func TestParseLeaves(t *testing.T) {
	for s, want := range map[string]string{
		"0": "[1 0/1 0 0 0 0]", "-7/2": "[1 -7/2 0 0 0 0]", "3m": "[1 3/1 1 0 0 0]", "1/2m2": "[1 1/2 2 0 0 0]", "-1m3": "[1 -1/1 3 0 0 0]", "p0": "[2 / 0 0 0 0]", "p7": "[2 / 0 7 0 0]",
		"p8": refused, "p9": refused, "p10": refused, "p": refused, "p00": refused, "p-1": refused, "p+1": refused, "P0": refused, "p0m": refused, "p 0": refused, "p/": refused, "p:": refused, "p\x00": refused, "0p": refused, "p0p1": refused, "p٣": refused,
		"m": refused, "m2": refused, "3m0": refused, "3m1": refused, "3m4": refused, "3m22": refused, "3m02": refused, "3mm": refused, "3m2m": refused, "3 m": refused, "3M": refused, "m3": refused, "3m-1": refused, "3m²": refused,
		"-0": refused, "+1": refused, "01": refused, "2/4": refused, "3/1": refused, "1/-2": refused, "1/0": refused, "1/2/3": refused, "1.5": refused, "1e2": refused, "--1": refused, "1/": refused, "/1": refused, "1m/2": refused, "1/2m/3": refused,
		"": refused, " ": refused, "(": refused, ")": refused, "()": refused, "(1)": refused, "(p0)": refused, "((1 + 1))": refused, "1 ": refused, " 1": refused, "1\n": refused, "1 + 1": refused, "(1 + 1) ": refused, "(1 + 1)1": refused, "(1 + 1))": refused, "(1 + 1) + 1": refused,
		"(1 + 1 + 1)": refused, "(1+1)": refused, "(1 +1)": refused, "(1+ 1)": refused, "(1  + 1)": refused, "(1 +  1)": refused, "( 1 + 1)": refused, "(1 + 1 )": refused, "(1 + )": refused, "( + 1)": refused, "(+ 1 1)": refused, "(1 ^ 1)": refused, "(1 % 1)": refused, "(1 & 1)": refused, "(1 1)": refused, "(1 + 1": refused, "1 + 1)": refused, "[1 + 1]": refused, "(1 × 1)": refused, "(1\t+\t1)": refused, "(1 + (1)": refused, "(1 - -1)": "[1 1/1 0 0 0 0][1 -1/1 0 0 0 0][4 / 0 0 0 1]", "(1 - - 1)": refused, "(1 -1)": refused,
	} {
		if got := exprOutcome(expr.Parse(s, mixed())); got != want {
			t.Errorf("Parse(%q) = %s", s, got)
		}
		checkParse(t, s, mixed())
		checkParse(t, "("+s+" * 1)", mixed())
		checkParse(t, "(1 * "+s+")", mixed())
	}
	for size := range 9 {
		for i := range 12 {
			checkParse(t, "p"+strconv.Itoa(i), mixed()[:size])
		}
	}
}

// P8.1: the nodes of Left stand before those of Right, and these before the
// operation itself.
func TestParseOrder(t *testing.T) {
	for s, want := range map[string]api.Expr{
		"((p0 * 1/2) + 3m)":         of(parameter(0), constant("1/2", 0), combined(api.EMul, 0, 1), constant("3", 1), combined(api.EAdd, 2, 3)),
		"(3m + (p0 / 2))":           of(constant("3", 1), parameter(0), constant("2", 0), combined(api.EDiv, 1, 2), combined(api.EAdd, 0, 3)),
		"((p1 - p1) * (p0 + p0))":   of(parameter(1), parameter(1), combined(api.ESub, 0, 1), parameter(0), parameter(0), combined(api.EAdd, 3, 4), combined(api.EMul, 2, 5)),
		"(p1 - (p1 - (p1 - p1)))":   of(parameter(1), parameter(1), parameter(1), parameter(1), combined(api.ESub, 2, 3), combined(api.ESub, 1, 4), combined(api.ESub, 0, 5)),
		"(((p1 - p1) - p1) - p1)":   of(parameter(1), parameter(1), combined(api.ESub, 0, 1), parameter(1), combined(api.ESub, 2, 3), parameter(1), combined(api.ESub, 4, 5)),
		"((p0 + p1) * (p0 + p1))":   {},
		"((p0 * 1/2) + (3m - p1))":  {},
		"((p0 + 1m) / (1m2 / 1m))":  of(parameter(0), constant("1", 1), combined(api.EAdd, 0, 1), constant("1", 2), constant("1", 1), combined(api.EDiv, 3, 4), combined(api.EDiv, 2, 5)),
		"((p0 + 1m) / (1m2 * 1m2))": {},
	} {
		e, err := expr.Parse(s, pair())
		if !expr.Same(e, want) || (err == api.OK) != (len(want.Nodes) > 0) {
			t.Errorf("Parse(%s) = %s, %d", s, nodesText(e), err)
		}
		checkParse(t, s, pair())
	}
}

// P8.1 and P8.6: texts with one byte changed, left out, or repeated.
func TestParseChanged(t *testing.T) {
	list := []string{"((p0 * 1/2) + 3m)", "((p1 - -1) * (p0 + 10m))", "(1m2 / (p0 / (p1 - p1)))", "-22/7m3"}
	for _, e := range expressions(18, false, 90) {
		if s, err := expr.Print(e, mixed()); err == api.OK {
			list = append(list, s)
		}
	}
	for _, s := range list {
		for i := range len(s) {
			checkParse(t, s[:i], mixed())
			checkParse(t, s[i:], mixed())
			checkParse(t, s[:i]+s[i+1:], mixed())
			checkParse(t, s[:i]+s[i:i+1]+s[i:], mixed())
			for b := range 256 {
				checkParse(t, s[:i]+string([]byte{byte(b)})+s[i+1:], mixed())
			}
		}
	}
}

// P8.1 and P8.6: Print returns the text; Parse of it has the same value, dimension
// and text, if it has at most 24 nodes.
func TestPrint(t *testing.T) {
	short, long, many := 0, 0, 0
	for i, e := range append(expressions(1500, true, 91), expressions(1000, false, 92)...) {
		last := len(e.Nodes) - 1
		want := wantText(e, last)
		s, err := expr.Print(e, mixed())
		if got := textOutcome(s, err); got != want {
			t.Errorf("Print(%s) = %.300s instead of %.300s", nodesText(e), got, want)
		}
		other, errParse := expr.Parse(s, mixed())
		switch {
		case want == refused:
			long++
			continue
		case parts(e)[last] > 24:
			many++
			if errParse != api.ErrExpr {
				t.Errorf("Parse(%s) = %d", s, errParse)
			}
			continue
		}
		short++
		checkParse(t, s, mixed())
		checkSame(t, e, other, changedValues(8, 2, uint64(i)))
	}
	if short < 1000 || long < 20 || many < 100 {
		t.Errorf("%d short texts, %d long ones, %d of many nodes", short, long, many)
	}
}

// checkSame checks that a and b have the same dimension and value, unless a node
// that only one of them has is refused.
func checkSame(t *testing.T, a, b api.Expr, values []api.Ratio) {
	t.Helper()
	dim, errDim := expr.Dim(a, mixed())
	otherDim, errOther := expr.Dim(b, mixed())
	if dim != otherDim || errDim != api.OK || errOther != api.OK {
		t.Errorf("the dimensions of %s and %s: %d, %d", nodesText(a), nodesText(b), dim, otherDim)
	}
	r, err := expr.Eval(a, mixed(), values)
	other, errOther := expr.Eval(b, mixed(), values)
	if err == api.OK && (errOther != api.OK || r != other) {
		t.Errorf("the values of %s and %s: %s, %s", nodesText(a), nodesText(b), rational.Print(r), rational.Print(other))
	}
}

// P8.1: a text has at most 2000 bytes.
func TestTextSize(t *testing.T) {
	for size := 1995; size <= 2005; size++ {
		for shift := range 3 {
			s := sized(size, shift)
			if len(s) != size {
				t.Fatalf("%d bytes instead of %d", len(s), size)
			}
			nodes, _ := read(s)
			want, wantPrinted := nodesText(of(nodes...)), s
			if size > 2000 {
				want, wantPrinted = refused, refused
			}
			if got := exprOutcome(expr.Parse(s, pair())); got != want {
				t.Errorf("Parse of %d bytes: %.100s", size, got)
			}
			if got := textOutcome(expr.Print(of(nodes...), pair())); got != wantPrinted {
				t.Errorf("Print of %d bytes: %.100s", size, got)
			}
		}
	}
}

// sized returns the text of an expression with so many bytes, which are about
// 2000. Shift tells where its parentheses are.
func sized(size int, shift int) string {
	large := sample.Power(199) + "/" + sample.Nines()
	s := large
	for i := range 3 {
		if (i+shift)%2 == 0 {
			s = "(" + s + " + " + large + ")"
		} else {
			s = "(" + large + " - " + s + ")"
		}
	}
	rest := size - len(s) - len("( * 1/)") - api.MaxDigits
	return "(" + s + " * " + sample.Power(rest) + "/" + sample.Nines() + ")"
}

// P8.1: a node that the last one does not need may have a text of any length; the
// text of a node that it needs is not cut.
func TestPrintNeeded(t *testing.T) {
	nodes := []api.ExprNode{parameter(1)}
	for i := range 22 {
		nodes = append(nodes, combined(api.EAdd, i, i))
		want := wantText(of(nodes...), i+1)
		if got := textOutcome(expr.Print(of(nodes...), pair())); got != want {
			t.Errorf("%d nodes: %.100s", len(nodes), got)
		}
		if (i < 8) != (want != refused) {
			t.Errorf("%d nodes: the text %.100s", len(nodes), want)
		}
		other := append(append([]api.ExprNode{}, nodes...), parameter(0))
		if got := textOutcome(expr.Print(of(other...), pair())); got != "p0" {
			t.Errorf("%d nodes before the last one: %.100s", len(nodes), got)
		}
	}
}

// P8.1: a text of some gigabytes is refused.
func TestPrintLong(t *testing.T) {
	nodes := []api.ExprNode{constant(sample.Nines()+"/"+sample.Power(199), 0)}
	for i := range 22 {
		nodes = append(nodes, combined(api.EMul, i, i))
	}
	for _, last := range []int{1, 4, 22} {
		e := of(append(append([]api.ExprNode{}, nodes...), combined(api.EAdd, 0, last))...)
		want := wantText(e, 23)
		if got := textOutcome(expr.Print(e, nil)); got != want {
			t.Errorf("%d: %.100s", last, got)
		}
	}
}

// P8.1: at most 24 nodes, which texts never have; so at most 23.
func TestParseNodes(t *testing.T) {
	left, right, both := "p1", "p1", "p1"
	for leaves := 2; leaves <= 40; leaves++ {
		left, right = "("+left+" - p1)", "(p1 * "+right+")"
		for _, s := range []string{left, right} {
			checkParse(t, s, pair())
			if got := exprOutcome(expr.Parse(s, pair())); (got != refused) != (2*leaves-1 <= 24) {
				t.Errorf("%d nodes: %.100s", 2*leaves-1, got)
			}
		}
		if len(both) < 1000 {
			both = "(" + both + " + " + both + ")"
			checkParse(t, both, pair())
		}
	}
	for size := 1; size < 3000; size += 99 {
		for _, s := range []string{"(", ")", "p0", "1", "(1 + ", " + 1)", "-", " ", "/", "m", "((", "\x00", "\xff"} {
			if got := exprOutcome(expr.Parse(strings.Repeat(s, size), pair())); got != refused && size > 1 && (s != "1" || size > 200) {
				t.Errorf("%d times %q: %.100s", size, s, got)
			}
		}
	}
	for _, size := range []int{2001, 1 << 16, 1 << 24} {
		if got := exprOutcome(expr.Parse(strings.Repeat("(", size), pair())); got != refused {
			t.Errorf("%d parentheses: %.100s", size, got)
		}
	}
}

package digest_test

import (
	"crypto/sha256"
	"strconv"
	"strings"
)

// refSum is the digest of the parts, one after the other, by Go's library.
func refSum(parts ...string) string {
	sum := sha256.Sum256([]byte(strings.Join(parts, "")))
	return string(sum[:])
}

func refLeaf(s string) string    { return refSum("\x00", s) }
func refNode(a, b string) string { return refSum("\x01", a, b) }

// entries returns n different strings of different lengths.
func entries(n int) []string {
	var l []string
	for i := range n {
		l = append(l, strings.Repeat(strconv.Itoa(i), i%5)+strconv.Itoa(i))
	}
	return l
}

// digests returns n different digests.
func digests(n int) []string {
	var l []string
	for i := range n {
		l = append(l, refSum("digest", strconv.Itoa(i)))
	}
	return l
}

// refRows builds the tree of l from the leaves up, not from the root down as the
// chapter does: each row joins neighbours of the one before, and a last digest
// without a neighbour moves up as it is. The last row is the root.
func refRows(l []string) [][]string {
	row := []string{}
	for _, s := range l {
		row = append(row, refLeaf(s))
	}
	rows := [][]string{row}
	for len(row) > 1 {
		next := []string{}
		for i := 0; i+1 < len(row); i += 2 {
			next = append(next, refNode(row[i], row[i+1]))
		}
		if len(row)%2 == 1 {
			next = append(next, row[len(row)-1])
		}
		rows, row = append(rows, next), next
	}
	return rows
}

func refRoot(l []string) string {
	if len(l) == 0 {
		return refSum()
	}
	rows := refRows(l)
	return rows[len(rows)-1][0]
}

// refClimb returns the neighbours of the digest at place i of the given row and
// of those above it, where they have one.
func refClimb(rows [][]string, i int) []string {
	var out []string
	for _, row := range rows {
		if beside := i ^ 1; beside < len(row) {
			out = append(out, row[beside])
		}
		i /= 2
	}
	return out
}

func refProof(l []string, i int) []string { return refClimb(refRows(l), i) }

// refExtension climbs from the greatest complete tree at the end of the first m
// entries.
func refExtension(l []string, m int) []string {
	if m == 0 || m == len(l) {
		return nil
	}
	rows, i := refRows(l), m-1
	for i%2 == 1 {
		rows, i = rows[1:], i/2
	}
	if i == 0 {
		return refClimb(rows, 0)
	}
	return append([]string{rows[0][i]}, refClimb(rows, i)...)
}

func allDigests(l ...string) bool {
	for _, s := range l {
		if len(s) != 32 {
			return false
		}
	}
	return true
}

// A climber is at place i of a row of the tree whose last place is last.
type climber struct{ i, last int }

// up moves to the next row, and past those where the place has no neighbour. It
// reports whether the neighbour that it leaves was on the left.
func (c *climber) up() bool {
	left := c.i%2 == 1 || c.i == c.last
	if left {
		for c.i%2 == 0 && c.i > 0 {
			c.half()
		}
	}
	c.half()
	return left
}

func (c *climber) half() { c.i, c.last = c.i/2, c.last/2 }

// refShow returns the root that the proof shows for s at i of n entries, and
// whether the proof has the right length. It climbs as RFC 9162, section
// 2.1.3.2, does, from the entry up, not from the root down as the chapter does.
func refShow(n, i int, s string, proof []string) (string, bool) {
	c, v := climber{i, n - 1}, refLeaf(s)
	for _, x := range proof {
		if c.last == 0 {
			return "", false
		}
		if c.up() {
			v = refNode(x, v)
		} else {
			v = refNode(v, x)
		}
	}
	return v, c.last == 0
}

func refVerify(root string, n, i int, s string, proof []string) bool {
	if i < 0 || i >= n || !allDigests(proof...) {
		return false
	}
	v, ok := refShow(n, i, s, proof)
	return ok && v == root
}

// refShowExtension returns the two roots that the proof shows for the first m of
// n entries, where m is from 1 to n - 1, and whether the proof has the right
// length. It climbs as RFC 9162, section 2.1.4.2, does.
func refShowExtension(m, n int, old string, proof []string) (string, string, bool) {
	c := climber{m - 1, n - 1}
	for c.i%2 == 1 {
		c.half()
	}
	if c.i == 0 {
		proof = append([]string{old}, proof...)
	}
	if len(proof) == 0 {
		return "", "", false
	}
	first, all := proof[0], proof[0]
	for _, x := range proof[1:] {
		if c.last == 0 {
			return "", "", false
		}
		if c.up() {
			first, all = refNode(x, first), refNode(x, all)
		} else {
			all = refNode(all, x)
		}
	}
	return first, all, c.last == 0
}

func refVerifyExtension(old string, m int, root string, n int, proof []string) bool {
	switch {
	case m < 0 || m > n || !allDigests(proof...) || !allDigests(old, root):
		return false
	case m == 0:
		return len(proof) == 0 && old == refSum()
	case m == n:
		return len(proof) == 0 && old == root
	}
	first, all, ok := refShowExtension(m, n, old, proof)
	return ok && first == old && all == root
}

package digest_test

import (
	"math"
	"math/bits"
	"slices"
	"strings"
	"testing"

	"workpiece/api"
	"workpiece/digest"
)

// P2.1: the roots of the chapter's definition, for all lists of few entries, and
// for long ones.
func TestRoot(t *testing.T) {
	leaf, node := refLeaf, refNode
	for _, c := range []struct {
		l    []string
		want string
	}{
		{nil, refSum("")}, {[]string{}, refSum("")}, {[]string{""}, leaf("")}, {[]string{"a"}, leaf("a")},
		{[]string{"a", "a"}, node(leaf("a"), leaf("a"))},
		{[]string{"a", "b", "c"}, node(node(leaf("a"), leaf("b")), leaf("c"))},
		{[]string{"a", "b", "c", "d", "e", "f"}, node(node(node(leaf("a"), leaf("b")), node(leaf("c"), leaf("d"))), node(leaf("e"), leaf("f")))},
	} {
		if digest.Root(c.l) != c.want {
			t.Errorf("Root(%q)", c.l)
		}
	}
	for n := range 130 {
		if l := entries(n); digest.Root(l) != refRoot(l) {
			t.Errorf("Root of %d entries", n)
		}
	}
	if l := entries(20000); digest.Root(l) != refRoot(l) {
		t.Error("Root of 20000 entries")
	}
}

// P2.1: the example of the chapter, and the proof of the only entry.
func TestProofKnown(t *testing.T) {
	l := []string{"a", "b", "c"}
	want := []string{refNode(refLeaf("a"), refLeaf("b"))}
	if p, err := digest.Proof(l, 2); !slices.Equal(p, want) || err != api.OK {
		t.Errorf("Proof of three entries, 2 = %x, %d", p, err)
	}
	if p, err := digest.Proof(l[:1], 0); len(p) != 0 || err != api.OK {
		t.Errorf("Proof of one entry, 0 = %x, %d", p, err)
	}
}

// P2.1 and P2.2: all proofs of lists of up to 70 entries; they are short, and
// show their entry and no other.
func TestProofs(t *testing.T) {
	for n := 1; n <= 70; n++ {
		l := entries(n)
		root := refRoot(l)
		for i := range n {
			p, err := digest.Proof(l, i)
			if err != api.OK || !slices.Equal(p, refProof(l, i)) {
				t.Errorf("Proof of %d entries, %d: %d", n, i, err)
			}
			if len(p) > bits.Len(uint(n)) {
				t.Errorf("Proof of %d entries, %d has %d elements", n, i, len(p))
			}
			for k, s := range l {
				if digest.Verify(root, n, i, s, p) != (k == i) {
					t.Errorf("Verify of the proof of %d in %d entries for entry %d", i, n, k)
				}
			}
		}
	}
}

// P2.1: an index of no entry.
func TestProofRefused(t *testing.T) {
	for n := range 10 {
		for _, i := range []int{math.MinInt, -1, n, n + 1, math.MaxInt} {
			if p, err := digest.Proof(entries(n), i); len(p) != 0 || err != api.ErrArg {
				t.Errorf("Proof of %d entries, %d = %x, %d; want ErrArg", n, i, p, err)
			}
		}
	}
}

// P2.1: Verify with any numbers, entries and proofs, among them accepted ones.
func TestVerifyAgainstReference(t *testing.T) {
	accepted := 0
	check := func(root string, n, i int, s string, p []string) {
		t.Helper()
		want := refVerify(root, n, i, s, p)
		if want {
			accepted++
		}
		if digest.Verify(root, n, i, s, p) != want {
			t.Errorf("Verify with n = %d, i = %d, %q and %d elements; want %t", n, i, s, len(p), want)
		}
	}
	for size := 1; size <= 12; size++ {
		l := entries(size)
		root := refRoot(l)
		for place := range size {
			p := refProof(l, place)
			for n := -2; n <= size+3; n++ {
				for i := -2; i <= n+2; i++ {
					check(root, n, i, l[place], p)
				}
			}
			for _, q := range tampered(p) {
				check(root, size, place, l[place], q)
			}
			for _, s := range []string{"", "x", l[place] + "x", refLeaf(l[place])} {
				check(root, size, place, s, p)
			}
			for _, r := range tamperedDigests(root) {
				check(r, size, place, l[place], p)
			}
		}
	}
	if accepted < 78 {
		t.Errorf("only %d calls are accepted", accepted)
	}
}

// tamperedDigests returns strings that differ little from the digest d.
func tamperedDigests(d string) []string {
	return []string{"", d[:31], d + "\x00", "\x00" + d, "x" + d[1:], d[:31] + string([]byte{d[31] ^ 1}), strings.ToUpper(d) + "x", d + d}
}

// tampered returns proofs that differ little from p.
func tampered(p []string) [][]string {
	out := [][]string{append(slices.Clone(p), refSum("x")), append([]string{refSum("x")}, p...), append(slices.Clone(p), ""), append([]string{""}, p...)}
	for i, d := range p {
		out = append(out, slices.Delete(slices.Clone(p), i, i+1), slices.Insert(slices.Clone(p), i, d))
		for _, x := range tamperedDigests(d) {
			q := slices.Clone(p)
			q[i] = x
			out = append(out, q)
		}
		if i > 0 {
			q := slices.Clone(p)
			q[i], q[i-1] = q[i-1], q[i]
			out = append(out, q)
		}
	}
	return out
}

// bigCounts are counts of entries around powers of two, up to the greatest int.
func bigCounts() []int {
	out := []int{math.MaxInt, math.MaxInt - 1, 3 << 60, 0x5555555555555555}
	for s := 5; s < 63; s += 3 {
		out = append(out, 1<<s-1, 1<<s, 1<<s+1)
	}
	return append(out, 1<<62-1, 1<<62, 1<<62+1)
}

// P2.1: the number of entries may be any int, and only one length of the proof
// is the right one.
func TestVerifyGreatCounts(t *testing.T) {
	for _, n := range bigCounts() {
		for _, i := range []int{0, 1, n / 3, n / 2, n/2 + 1, n - 2, n - 1} {
			shown := 0
			for size := range 66 {
				p := digests(size)
				root, ok := refShow(n, i, "entry", p)
				if ok {
					shown++
				}
				if digest.Verify(root, n, i, "entry", p) != ok {
					t.Errorf("Verify with n = %d, i = %d and %d elements; want %t", n, i, size, ok)
				}
			}
			if shown != 1 {
				t.Errorf("%d lengths are right for n = %d, i = %d", shown, n, i)
			}
		}
	}
}

// P2.1: numbers of which one is out of range.
func TestVerifyRefused(t *testing.T) {
	l := entries(1)
	root := refRoot(l)
	for _, c := range [][2]int{{0, 0}, {1, 1}, {1, -1}, {-1, 0}, {-1, -2}, {math.MinInt, 0}, {math.MinInt, math.MaxInt}, {math.MinInt, math.MinInt}, {1, math.MinInt}, {1, math.MaxInt}, {0, -1}} {
		if digest.Verify(root, c[0], c[1], l[0], nil) {
			t.Errorf("Verify accepts n = %d, i = %d", c[0], c[1])
		}
	}
	if !digest.Verify(root, 1, 0, l[0], []string{}) {
		t.Error("Verify refuses an empty proof that is not nil")
	}
}

// P2.1: a proof with an element that is no digest, although the root is its
// value.
func TestVerifyRefusesNonDigests(t *testing.T) {
	d := digests(2)
	for _, x := range tamperedDigests(d[0]) {
		want := len(x) == 32
		if digest.Verify(refNode(refLeaf("a"), x), 2, 0, "a", []string{x}) != want {
			t.Errorf("Verify of a proof of %d bytes; want %t", len(x), want)
		}
		if digest.Verify(refNode(refNode(x, refLeaf("a")), d[1]), 3, 1, "a", []string{x, d[1]}) != want {
			t.Errorf("Verify of a proof that begins with %d bytes; want %t", len(x), want)
		}
	}
}

// P2.1 (R3): arguments are not modified, and results are new memory with their
// spare capacity.
func TestProofMemory(t *testing.T) {
	for n := 1; n <= 20; n++ {
		whole := append(entries(n), "spare", "spare")
		l := whole[:n]
		for i := range n {
			p, _ := digest.Proof(l, i)
			q, _ := digest.Proof(l, i)
			before := slices.Clone(q)
			digest.Verify(refRoot(l), n, i, l[i], q)
			clear(p[:cap(p)])
			if !slices.Equal(q, before) {
				t.Errorf("the proofs of %d in %d entries share memory, or Verify changes them", i, n)
			}
		}
		if !slices.Equal(whole, append(entries(n), "spare", "spare")) {
			t.Errorf("Proof changes a list of %d entries", n)
		}
	}
}

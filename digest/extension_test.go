package digest_test

import (
	"math"
	"math/bits"
	"slices"
	"testing"

	"workpiece/api"
	"workpiece/digest"
)

// P2.1: the example of the chapter, and the ends of its range.
func TestExtensionKnown(t *testing.T) {
	l := []string{"a", "b", "c"}
	for _, c := range []struct {
		m    int
		want []string
	}{
		{0, nil}, {1, []string{refLeaf("b"), refLeaf("c")}}, {2, []string{refLeaf("c")}}, {3, nil},
	} {
		if p, err := digest.Extension(l, c.m); !slices.Equal(p, c.want) || err != api.OK {
			t.Errorf("Extension of three entries, %d = %x, %d", c.m, p, err)
		}
	}
	if p, err := digest.Extension(nil, 0); len(p) != 0 || err != api.OK {
		t.Errorf("Extension of no entries, 0 = %x, %d", p, err)
	}
}

// P2.1 and P2.2: all extensions of lists of up to 70 entries; they are short,
// and show their beginning and no other.
func TestExtensions(t *testing.T) {
	for n := range 71 {
		l := entries(n)
		var roots []string
		for m := range n + 1 {
			roots = append(roots, refRoot(l[:m]))
		}
		for m := range n + 1 {
			p, err := digest.Extension(l, m)
			if err != api.OK || !slices.Equal(p, refExtension(l, m)) {
				t.Errorf("Extension of %d entries, %d: %d", n, m, err)
			}
			if len(p) > 2*bits.Len(uint(n)) {
				t.Errorf("Extension of %d entries, %d has %d elements", n, m, len(p))
			}
			for k, old := range roots {
				if digest.VerifyExtension(old, m, roots[n], n, p) != (k == m) {
					t.Errorf("VerifyExtension of %d of %d entries for the root of %d", m, n, k)
				}
			}
		}
	}
}

// P2.1: a beginning that the list does not have.
func TestExtensionRefused(t *testing.T) {
	for n := range 10 {
		for _, m := range []int{math.MinInt, -1, n + 1, n + 2, math.MaxInt} {
			if p, err := digest.Extension(entries(n), m); len(p) != 0 || err != api.ErrArg {
				t.Errorf("Extension of %d entries, %d = %x, %d; want ErrArg", n, m, p, err)
			}
		}
	}
}

// P2.1: VerifyExtension with any numbers, roots and proofs, among them accepted
// ones.
func TestVerifyExtensionAgainstReference(t *testing.T) {
	accepted := 0
	check := func(old string, m int, root string, n int, p []string) {
		t.Helper()
		want := refVerifyExtension(old, m, root, n, p)
		if want {
			accepted++
		}
		if digest.VerifyExtension(old, m, root, n, p) != want {
			t.Errorf("VerifyExtension with m = %d, n = %d and %d elements; want %t", m, n, len(p), want)
		}
	}
	for size := range 13 {
		l := entries(size)
		root := refRoot(l)
		for count := range size + 1 {
			old, p := refRoot(l[:count]), refExtension(l, count)
			for n := -2; n <= size+3; n++ {
				for m := -2; m <= n+2; m++ {
					check(old, m, root, n, p)
				}
			}
			for _, q := range tampered(p) {
				check(old, count, root, size, q)
			}
			for _, x := range append(tamperedDigests(old), root, refSum()) {
				check(x, count, root, size, p)
			}
			for _, x := range append(tamperedDigests(root), old, refSum()) {
				check(old, count, x, size, p)
			}
		}
	}
	if accepted < 91 {
		t.Errorf("only %d calls are accepted", accepted)
	}
}

// P2.1: if m is 0, the numbers and the root of the list do not matter, but they
// must be valid.
func TestVerifyExtensionOfNothing(t *testing.T) {
	none := refSum()
	for _, n := range []int{0, 1, 2, 3, math.MaxInt} {
		for _, root := range append(digests(2), none) {
			if !digest.VerifyExtension(none, 0, root, n, nil) || !digest.VerifyExtension(none, 0, root, n, []string{}) {
				t.Errorf("VerifyExtension refuses no entries of %d", n)
			}
			if digest.VerifyExtension(none, 0, root, n, digests(1)) {
				t.Errorf("VerifyExtension accepts a proof for no entries of %d", n)
			}
			if digest.VerifyExtension(digests(1)[0], 0, root, n, nil) {
				t.Errorf("VerifyExtension accepts another root of no entries, of %d", n)
			}
		}
		if digest.VerifyExtension(none, 0, "root", n, nil) || digest.VerifyExtension(none, 0, "", n, nil) {
			t.Errorf("VerifyExtension accepts a root of %d entries that is no digest", n)
		}
	}
	for _, n := range []int{-1, -2, math.MinInt} {
		if digest.VerifyExtension(none, 0, none, n, nil) || digest.VerifyExtension(none, n, none, n, nil) {
			t.Errorf("VerifyExtension accepts %d entries", n)
		}
	}
}

// P2.1: if m is n, both roots must be the same digest, and the proof empty.
func TestVerifyExtensionOfAll(t *testing.T) {
	d := digests(3)
	for _, n := range []int{1, 2, 3, 4, 7, math.MaxInt} {
		if !digest.VerifyExtension(d[0], n, d[0], n, nil) {
			t.Errorf("VerifyExtension refuses all of %d entries", n)
		}
		if digest.VerifyExtension(d[0], n, d[1], n, nil) || digest.VerifyExtension(d[0], n, d[0], n, d[:1]) || digest.VerifyExtension("ab", n, "ab", n, nil) || digest.VerifyExtension("", n, "", n, nil) {
			t.Errorf("VerifyExtension accepts other roots, or a proof, for all of %d entries", n)
		}
	}
}

// P2.1: roots and proofs that are no digests, although the values are as they
// must be.
func TestVerifyExtensionRefusesNonDigests(t *testing.T) {
	d := digests(2)
	for _, x := range tamperedDigests(d[0]) {
		want := len(x) == 32
		if digest.VerifyExtension(x, 1, refNode(x, d[1]), 2, d[1:]) != want {
			t.Errorf("VerifyExtension of an old root of %d bytes; want %t", len(x), want)
		}
		if digest.VerifyExtension(d[1], 1, refNode(d[1], x), 2, []string{x}) != want {
			t.Errorf("VerifyExtension of a proof of %d bytes; want %t", len(x), want)
		}
		if digest.VerifyExtension(refNode(d[1], x), 3, refNode(d[1], refNode(x, d[0])), 4, []string{x, d[0], d[1]}) != want {
			t.Errorf("VerifyExtension of a proof that begins with %d bytes; want %t", len(x), want)
		}
	}
}

// P2.1: the number of entries may be any int, and only one length of the proof
// is the right one.
func TestVerifyExtensionGreatCounts(t *testing.T) {
	for _, n := range bigCounts() {
		for _, m := range []int{1, 2, n / 3, n / 2, n/2 + 1, n - 2, n - 1} {
			shown := 0
			for size := range 66 {
				p := digests(size)
				old, root, ok := refShowExtension(m, n, refSum("old"), p)
				if ok {
					shown++
				}
				if digest.VerifyExtension(old, m, root, n, p) != ok {
					t.Errorf("VerifyExtension with m = %d, n = %d and %d elements; want %t", m, n, size, ok)
				}
			}
			if shown != 1 {
				t.Errorf("%d lengths are right for m = %d, n = %d", shown, m, n)
			}
		}
	}
}

// P2.1 (R3): arguments are not modified, and results are new memory with their
// spare capacity.
func TestExtensionMemory(t *testing.T) {
	for n := range 21 {
		whole := append(entries(n), "spare", "spare")
		l := whole[:n]
		for m := range n + 1 {
			p, _ := digest.Extension(l, m)
			q, _ := digest.Extension(l, m)
			before := slices.Clone(q)
			digest.VerifyExtension(refRoot(l[:m]), m, refRoot(l), n, q)
			clear(p[:cap(p)])
			if !slices.Equal(q, before) {
				t.Errorf("the extensions of %d in %d entries share memory, or VerifyExtension changes them", m, n)
			}
		}
		digest.Root(l)
		if !slices.Equal(whole, append(entries(n), "spare", "spare")) {
			t.Errorf("Extension changes a list of %d entries", n)
		}
	}
}

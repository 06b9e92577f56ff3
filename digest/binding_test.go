package digest_test

import (
	"slices"
	"testing"

	"workpiece/digest"
)

// forgeries returns all proofs of up to size elements of the pool.
func forgeries(pool []string, size int) [][]string {
	out := [][]string{nil}
	begin := 0
	for range size {
		end := len(out)
		for _, p := range out[begin:end] {
			for _, x := range pool {
				out = append(out, append(slices.Clone(p), x))
			}
		}
		begin = end
	}
	return out
}

// joined returns the strings that Leaf, Node and Chain compute a Sum of for the
// given digests, with and without their first byte.
func joined(pool []string) []string {
	var out []string
	for _, a := range pool {
		out = append(out, a, "\x00"+a)
		for _, b := range pool {
			out = append(out, a+b, "\x01"+a+b)
		}
	}
	return out
}

// P2.3: no proof that is made of the digests of the tree shows another entry at
// a place, neither one of the list nor a string of digests of the tree.
func TestVerifyBinds(t *testing.T) {
	for n := 1; n <= 4; n++ {
		l := entries(n)
		root := refRoot(l)
		pool := slices.Concat(refRows(l)...)
		others := slices.Concat(l, []string{"", root}, joined(pool))
		proofs := forgeries(pool, 3)
		for i := range n {
			accepted := 0
			for _, p := range proofs {
				for _, s := range others {
					if !digest.Verify(root, n, i, s, p) {
						continue
					}
					accepted++
					if s != l[i] {
						t.Errorf("Verify accepts %q at %d of %d entries, where %q is", s, i, n, l[i])
					}
				}
			}
			if accepted == 0 {
				t.Errorf("Verify accepts no entry at %d of %d", i, n)
			}
		}
	}
}

// P2.3: the parts of which a Sum is computed for a proof cannot be cut
// differently, so that digests of other lengths do not show another entry.
func TestVerifyBindsCuts(t *testing.T) {
	l := entries(2)
	a, b := refLeaf(l[0]), refLeaf(l[1])
	for cut := range 65 {
		both := a + b
		x, y := both[:cut], both[cut:]
		root := refSum("\x01", x, y)
		if root != refRoot(l) {
			t.Fatal("the strings are not the same")
		}
		if got := digest.Verify(root, 2, 0, l[0], []string{y}); got != (cut == 32) {
			t.Errorf("Verify of entry 0 with %d bytes of proof: %t", len(y), got)
		}
		if got := digest.Verify(root, 2, 1, l[1], []string{x}); got != (cut == 32) {
			t.Errorf("Verify of entry 1 with %d bytes of proof: %t", len(x), got)
		}
	}
}

// P2.3: a leaf is never a node or a chain, whatever the strings are.
func TestKindsDiffer(t *testing.T) {
	pool := append(digests(2), "", "a", "\x00", "\x01", "\x02")
	of := map[string]string{}
	add := func(sum string, text string) {
		if other, ok := of[sum]; ok && other != text {
			t.Errorf("%q and %q have the same digest", other, text)
		}
		of[sum] = text
	}
	for _, a := range pool {
		add(digest.Leaf(a), "leaf "+a)
		for _, b := range pool {
			add(digest.Leaf(a+b), "leaf "+a+b)
			add(digest.Node(a, b), "node "+a+b)
			add(digest.Chain(a, b), "chain "+a+b)
		}
	}
}

// P2.3: different lists of records have different heads, none of which is that
// of no records. The records are such that they join to the same strings, or to
// strings of which heads are the Sum.
func TestHeadsBind(t *testing.T) {
	none := string(make([]byte, 32))
	one := digest.Chain(none, "a")
	records := []string{"", "a", "b", "ab", "\x00", "\x02", none, none + "a", "\x02" + none + "a", one, one + "b", "\x02" + one}
	type list struct {
		text string
		head string
	}
	row := []list{{"", none}}
	seen := map[string]string{none: ""}
	for range 3 {
		var next []list
		for _, l := range row {
			for _, r := range records {
				longer := list{l.text + "[" + r + "]", digest.Chain(l.head, r)}
				if other, ok := seen[longer.head]; ok {
					t.Fatalf("%q and %q have the same head", other, longer.text)
				}
				seen[longer.head] = longer.text
				next = append(next, longer)
			}
		}
		row = next
	}
}

// P2.4: no proof that is made of the digests of two trees shows another
// beginning of a list.
func TestVerifyExtensionBinds(t *testing.T) {
	for n := 1; n <= 5; n++ {
		l := entries(n)
		root := refRoot(l)
		pool := slices.Concat(refRows(l)...)
		for m := range n + 1 {
			pool = append(pool, refRoot(l[:m]), refRoot(l[m:]))
		}
		slices.Sort(pool)
		pool = slices.Compact(pool)
		proofs := forgeries(pool, 3)
		for m := range n + 1 {
			old, accepted := refRoot(l[:m]), 0
			p := refExtension(l, m)
			for _, q := range append(proofs, p) {
				for _, x := range pool {
					if !digest.VerifyExtension(x, m, root, n, q) {
						continue
					}
					accepted++
					if x != old {
						t.Errorf("VerifyExtension accepts another root of the first %d of %d entries", m, n)
					}
				}
			}
			if accepted == 0 {
				t.Errorf("VerifyExtension accepts no root of the first %d of %d entries", m, n)
			}
		}
	}
}

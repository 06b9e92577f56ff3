package digest

import "workpiece/api"

// Root returns the root of l.
func Root(l []string) string {
	switch len(l) {
	case 0:
		return Sum("")
	case 1:
		return Leaf(l[0])
	}
	first, others := halves(l)
	return Node(Root(first), Root(others))
}

// Proof returns the proof of the entry with the index i in l, or ErrArg if there
// is no such entry.
func Proof(l []string, i int) ([]string, api.Errno) {
	if i < 0 || i >= len(l) {
		return nil, api.ErrArg
	}
	return path(l, i), api.OK
}

// Verify reports whether proof shows that s is the entry with the index i of a
// list with n entries and the given root.
func Verify(root string, n int, i int, s string, proof []string) bool {
	if i < 0 || i >= n || !areDigests(proof...) {
		return false
	}
	shown, ok := value(n, i, s, proof)
	return ok && shown == root
}

// Extension returns a proof that l begins with its first m entries, or ErrArg if
// l does not have as many.
func Extension(l []string, m int) ([]string, api.Errno) {
	if m < 0 || m > len(l) {
		return nil, api.ErrArg
	}
	if m == 0 {
		return nil, api.OK
	}
	return part(l, m, true), api.OK
}

// VerifyExtension reports whether proof shows that a list with n entries and the
// given root begins with m entries whose root is old.
func VerifyExtension(old string, m int, root string, n int, proof []string) bool {
	if m < 0 || m > n || !areDigests(old, root) || !areDigests(proof...) {
		return false
	}
	if m == 0 {
		return len(proof) == 0 && old == Root(nil)
	}
	first, whole, ok := values(m, n, old, proof, true)
	return ok && first == old && whole == root
}

// split returns the greatest power of two that is less than n, which must be at
// least 2.
func split(n int) int {
	k := 1
	// Not 2*k < n, which is not the exact product for the greatest n.
	for k < n-k {
		k *= 2
	}
	return k
}

// halves returns the two parts of l, which must have at least two entries, whose
// roots make up its root.
func halves(l []string) ([]string, []string) {
	k := split(len(l))
	return l[:k], l[k:]
}

// areDigests reports whether all of l are digests.
func areDigests(l ...string) bool {
	for _, s := range l {
		if len(s) != api.DigestSize {
			return false
		}
	}
	return true
}

// path returns the proof of the entry with the index i in l, which must exist.
func path(l []string, i int) []string {
	if len(l) == 1 {
		return nil
	}
	first, others := halves(l)
	if i < len(first) {
		return append(path(first, i), Root(others))
	}
	return append(path(others, i-len(first)), Root(first))
}

// value returns the value of n, i and proof, in which s is the entry, and
// whether proof has the length that it must have.
func value(n int, i int, s string, proof []string) (string, bool) {
	if n == 1 {
		return Leaf(s), len(proof) == 0
	}
	if len(proof) == 0 {
		return "", false
	}
	rest, x, k := proof[:len(proof)-1], proof[len(proof)-1], split(n)
	if i < k {
		v, ok := value(k, i, s, rest)
		return Node(v, x), ok
	}
	v, ok := value(n-k, i-k, s, rest)
	return Node(x, v), ok
}

// part returns the digests of the proof that l begins with its first m entries,
// where m is from 1 to the number of entries. whole tells whether the root of
// the m entries is known to the one who checks the proof.
func part(l []string, m int, whole bool) []string {
	if m == len(l) {
		if whole {
			return nil
		}
		return []string{Root(l)}
	}
	first, others := halves(l)
	if m <= len(first) {
		return append(part(first, m, whole), Root(others))
	}
	return append(part(others, m-len(first), false), Root(first))
}

// values returns the two values of m, n, proof and whole, where m is from 1 to
// n, and whether proof has the length that it must have.
func values(m int, n int, old string, proof []string, whole bool) (string, string, bool) {
	if m == n && whole {
		return old, old, len(proof) == 0
	}
	if len(proof) == 0 {
		return "", "", false
	}
	rest, x := proof[:len(proof)-1], proof[len(proof)-1]
	if m == n {
		return x, x, len(rest) == 0
	}
	k := split(n)
	if m <= k {
		first, all, ok := values(m, k, old, rest, whole)
		return first, Node(all, x), ok
	}
	first, all, ok := values(m-k, n-k, old, rest, false)
	return Node(x, first), Node(x, all), ok
}

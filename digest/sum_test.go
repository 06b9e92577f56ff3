package digest_test

import (
	"crypto/sha256"
	"encoding/hex"
	"strings"
	"testing"

	"workpiece/digest"
	"workpiece/sample"
)

// P2.1: the examples of the chapter, and digests that are known elsewhere.
func TestSumKnown(t *testing.T) {
	for _, c := range []struct{ s, want string }{
		{"", "e3b0c44298fc1c149afbf4c8996fb92427ae41e4649b934ca495991b7852b855"},
		{"abc", "ba7816bf8f01cfea414140de5dae2223b00361a396177a9cb410ff61f20015ad"},
		{"abcdbcdecdefdefgefghfghighijhijkijkljklmklmnlmnomnopnopq", "248d6a61d20638b8e5c026930c3e6039a33ce45964ff2167f6ecedd419db06c1"},
		{"abcdefghbcdefghicdefghijdefghijkefghijklfghijklmghijklmnhijklmnoijklmnopjklmnopqklmnopqrlmnopqrsmnopqrstnopqrstu", "cf5b16a778af8380036ce59e7b0492370b249b11e8f07a51afac45037afee9d1"},
		{"\xbd", "68325720aabd7c82f30f554b313d0570c95accbb7dc4b5aae11204c08ffe732b"},
		{strings.Repeat("\x00", 64), "f5a5fd42d16a20302798ef6ed309979b43003d2320d9f0e8ea9831a92759fb4b"},
		{strings.Repeat("a", 1000000), "cdc76e5c9914fb9281a1c7e284d73e67f1809a48a497200e046d39ccc7112cd0"},
	} {
		if got := hex.EncodeToString([]byte(digest.Sum(c.s))); got != c.want {
			t.Errorf("Sum(%.20q) = %s, want %s", c.s, got, c.want)
		}
	}
}

// P2.1: strings of every length around the ends of the blocks, of every single
// byte, and long ones.
func TestSumAgainstLibrary(t *testing.T) {
	check := func(s string) {
		t.Helper()
		if digest.Sum(s) != refSum(s) {
			t.Errorf("Sum of %d bytes, %.20q", len(s), s)
		}
	}
	for size := range 400 {
		check(sample.Bytes(size, uint64(size)))
		check(strings.Repeat("\x00", size))
		check(strings.Repeat("\xff", size))
	}
	for b := range 256 {
		check(string([]byte{byte(b)}))
	}
	// The length in bits needs two, three and four bytes.
	for _, size := range []int{8191, 8192, 2097151, 2097152} {
		check(strings.Repeat("0123456789abcdef", size/16+1)[:size])
	}
}

// P2.1: the length in bits of a string of more than 512 MiB needs five bytes.
func TestSumOfGreatString(t *testing.T) {
	const chunks = 1<<15 + 1
	chunk := sample.Bytes(1<<14, 1)
	want := sha256.New()
	for range chunks {
		want.Write([]byte(chunk))
	}
	s := strings.Repeat(chunk, chunks)
	if digest.Sum(s) != string(want.Sum(nil)) {
		t.Errorf("Sum of %d bytes", len(s))
	}
}

// P2.1: the example of the chapter.
func TestLeafKnown(t *testing.T) {
	const want = "609f6e36d2405585188d5cfd761f407c7cc46a7d3f314c88270469dde315fcd1"
	if got := hex.EncodeToString([]byte(digest.Leaf("abc"))); got != want {
		t.Errorf("Leaf(abc) = %s, want %s", got, want)
	}
}

// P2.1: Chain, Leaf and Node put their byte before any strings, whether these
// are digests or not, and wherever the blocks end.
func TestMarks(t *testing.T) {
	for i := range 140 {
		a := sample.Bytes(i, uint64(i))
		if digest.Leaf(a) != refSum("\x00", a) {
			t.Errorf("Leaf of %d bytes", i)
		}
		for j := range 140 {
			b := sample.Bytes(j, uint64(1000+j))
			if digest.Node(a, b) != refSum("\x01", a, b) {
				t.Errorf("Node of %d and %d bytes", i, j)
			}
			if digest.Chain(a, b) != refSum("\x02", a, b) {
				t.Errorf("Chain of %d and %d bytes", i, j)
			}
		}
	}
}

package wire_test

import (
	"sort"
	"strings"
	"testing"

	"workpiece/api"
	"workpiece/sample"
	"workpiece/wire"
)

// checkPrefixFree reports encodings that are equal or of which one begins with
// another one: in sorted order, two of them are then neighbours.
func checkPrefixFree(t *testing.T, codes []string) {
	t.Helper()
	sort.Strings(codes)
	for i := 1; i < len(codes); i++ {
		if strings.HasPrefix(codes[i], codes[i-1]) {
			t.Errorf("%.30q begins with %.30q", codes[i], codes[i-1])
		}
	}
}

// P1.4: encodings of integers are different, and none begins with another one.
func TestIntsPrefixFree(t *testing.T) {
	var codes []string
	add := func(n int) {
		code, err := wire.PutInt(n)
		if err != api.OK {
			t.Fatalf("PutInt(%d): %d", n, err)
		}
		codes = append(codes, code)
	}
	for n := -20000; n <= 20000; n++ {
		add(n)
	}
	for _, n := range edgeInts() {
		if n < -20000 || n > 20000 {
			add(n)
		}
	}
	checkPrefixFree(t, codes)
}

// P1.4: the same for strings.
func TestStringsPrefixFree(t *testing.T) {
	strs := []string{""}
	for i := range 256 {
		strs = append(strs, string([]byte{byte(i)}))
		for j := range 256 {
			strs = append(strs, string([]byte{byte(i), byte(j)}))
		}
	}
	for size := 3; size < 200; size++ {
		strs = append(strs, strings.Repeat("\x00", size), strings.Repeat("\x80", size))
	}
	var codes []string
	for _, s := range strs {
		code, err := wire.PutString(s)
		if err != api.OK {
			t.Fatalf("PutString(%q): %d", s, err)
		}
		codes = append(codes, code)
	}
	checkPrefixFree(t, codes)
}

// checkInt compares Int with its definition, and what it accepts with PutInt.
func checkInt(t *testing.T, s string) {
	t.Helper()
	n, next, err := wire.Int(s, 0)
	want, wantNext, ok := refInt(s)
	if ok != (err == api.OK) || !ok && err != api.ErrWire || n != want || next != wantNext {
		t.Errorf("Int(%x, 0) = %d, %d, %d; want %d, %d, %v", s, n, next, err, want, wantNext, ok)
	}
	if err != api.OK {
		return
	}
	if code, err := wire.PutInt(n); err != api.OK || code != s[:next] {
		t.Errorf("Int accepts %x for %d, PutInt returns %x, %d", s[:next], n, code, err)
	}
}

// P1.4: Int accepts exactly what PutInt returns, among all short strings.
func TestIntAcceptsShort(t *testing.T) {
	checkInt(t, "")
	for i := range 256 {
		checkInt(t, string([]byte{byte(i)}))
		for j := range 256 {
			checkInt(t, string([]byte{byte(i), byte(j)}))
		}
	}
}

// P1.4: Int accepts exactly what PutInt returns, among long strings of groups.
func TestIntAcceptsLong(t *testing.T) {
	ends := "\x00\x01\x02\x3f\x40\x7e\x7f\x80\x81\xbf\xc0\xfd\xfe\xff"
	for _, first := range []string{"\x80", "\x81", "\xfc", "\xfd", "\xfe", "\xff"} {
		for _, middle := range []string{"\x80", "\xff", "\xc0"} {
			for size := range 11 {
				for i := range len(ends) {
					for j := range len(ends) {
						checkInt(t, first+strings.Repeat(middle, size)+ends[i:i+1]+ends[j:j+1])
					}
				}
			}
		}
	}
	for seed := range 20000 {
		checkInt(t, sample.Bytes(12, uint64(seed)))
	}
}

// P1.4: String accepts exactly what PutString returns, with any offset.
func TestStringAccepts(t *testing.T) {
	check := func(s string, at int) {
		u, next, err := wire.String(s, at)
		size, begin, ok := refInt(s[at:])
		ok = ok && size >= 0 && size <= len(s)-at-begin
		if !ok {
			if u != "" || next != 0 || err != api.ErrWire {
				t.Errorf("String(%x, %d) = %q, %d, %d; want ErrWire", s, at, u, next, err)
			}
			return
		}
		if u != s[at+begin:at+begin+size] || next != at+begin+size || err != api.OK {
			t.Errorf("String(%x, %d) = %q, %d, %d", s, at, u, next, err)
		}
		if code, err := wire.PutString(u); err != api.OK || code != s[at:next] {
			t.Errorf("String accepts %x, PutString returns %x, %d", s[at:next], code, err)
		}
	}
	for i := range 256 {
		for j := range 256 {
			check(string([]byte{byte(i), byte(j)})+"abc", 0)
			check("x"+string([]byte{byte(i), byte(j)})+sample.Bytes(200, uint64(j)), 1)
		}
	}
	for seed := range 2000 {
		s := sample.Bytes(20, uint64(seed))
		for at := range len(s) + 1 {
			check(s, at)
		}
	}
}

// P1.4: a concatenation of encodings is decoded to what was encoded.
func TestConcatenation(t *testing.T) {
	ints := edgeInts()
	var all strings.Builder
	all.WriteString("head")
	for i, n := range ints {
		code, _ := wire.PutInt(n)
		all.WriteString(code)
		code, _ = wire.PutString(sample.Bytes(i%150, uint64(i)))
		all.WriteString(code)
	}
	s := all.String()
	at := len("head")
	for i, n := range ints {
		m, next, err := wire.Int(s, at)
		if m != n || err != api.OK {
			t.Fatalf("integer %d is %d, %d; want %d", i, m, err, n)
		}
		u, next, err := wire.String(s, next)
		if u != sample.Bytes(i%150, uint64(i)) || err != api.OK {
			t.Fatalf("string %d is %q, %d", i, u, err)
		}
		at = next
	}
	if at != len(s) {
		t.Errorf("%d bytes are left", len(s)-at)
	}
}

// flip returns s with the bits of pattern changed, from bit at on; the bits of
// each byte are counted from the lowest one.
func flip(s string, at int, pattern uint64) string {
	out := []byte(s)
	for i := range 64 {
		if pattern>>i&1 == 1 {
			out[(at+i)/8] ^= 1 << ((at + i) % 8)
		}
	}
	return string(out)
}

// P1.4: a change of at most 32 consecutive bits changes Sum.
func TestSumOfBursts(t *testing.T) {
	for size := 1; size <= 12; size++ {
		s := sample.Bytes(size, uint64(size))
		old := wire.Sum(s)
		for at := range 8 * size {
			check := func(pattern uint64) {
				if pattern != 0 && wire.Sum(flip(s, at, pattern)) == old {
					t.Errorf("Sum of %x does not change with the bits %b at %d", s, pattern, at)
				}
			}
			room := min(32, 8*size-at)
			for pattern := range uint64(1) << min(room, 9) {
				check(pattern)
				check(pattern << (room - min(room, 9)))
			}
			for i := range uint64(100) {
				pattern := (i + 1) * 0x9E3779B97F4A7C15 >> 20
				check(pattern & (1<<room - 1))
			}
		}
	}
}

// P1.4: the changes of Sum that single bits of a window of 32 bits cause are
// linearly independent, and add up (XOR), so that no burst there cancels out.
func TestSumOfWindows(t *testing.T) {
	for _, size := range []int{4, 5, 9, 40} {
		s := sample.Bytes(size, uint64(size))
		old := wire.Sum(s)
		for at := range 8*size - 31 {
			var basis [32]int
			rank, sum := 0, 0
			for i := range 32 {
				d := wire.Sum(flip(s, at+i, 1)) ^ old
				sum ^= d
				for bit := 31; bit >= 0 && d != 0; bit-- {
					if d>>bit&1 == 0 {
						continue
					}
					if basis[bit] == 0 {
						basis[bit], d = d, 0
						rank++
						break
					}
					d ^= basis[bit]
				}
			}
			if rank != 32 {
				t.Errorf("a burst in the window at %d of %d bytes does not change Sum", at, size)
			}
			if wire.Sum(flip(s, at, 1<<32-1))^old != sum {
				t.Errorf("changes in the window at %d of %d bytes do not add up", at, size)
			}
		}
	}
}

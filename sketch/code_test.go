package sketch_test

import (
	"slices"
	"strings"
	"testing"

	"workpiece/api"
	"workpiece/sample"
	"workpiece/sketch"
)

// codeOutcome returns a resulting encoding, or refused.
func codeOutcome(s string, err api.Errno) string { return sample.Outcome(s, s == "", err) }

// checkDecode checks Decode of code, and returns whether it is an encoding.
func checkDecode(t *testing.T, code string) bool {
	t.Helper()
	s, err := sketch.Decode(code)
	if got, want := sketchOutcome(s, err), wantSketch(code); got != want {
		t.Errorf("Decode(%.200q) = %.500s instead of %.500s", code, got, want)
	}
	return err == api.OK
}

// P9.1: the encoding of a sketch is what the chapter says, and others have none.
func TestEncode(t *testing.T) {
	for _, c := range append(sample.Constraints(4), sample.InvalidConstraints()...) {
		for n := range 9 {
			if got, want := codeOutcome(sketch.Encode(sample.Sketch(n, c))), wantCode(sample.Sketch(n, c)); got != want {
				t.Errorf("Encode(%d points, %.200q) = %q instead of %q", n, c.Value, got, want)
			}
		}
	}
	fine := api.Constraint{Kind: api.CVertical, P: 7}
	list := sample.Sketches(600, 3)
	for _, n := range []int{-1 << 63, -1, 0, 1, 8, 9} {
		list = append(list, sample.Sketch(n))
	}
	for _, count := range []int{15, 16, 17, 1000} {
		list = append(list, sample.Sketch(8, slices.Repeat([]api.Constraint{fine}, count)...), sample.Sketch(8, append(slices.Repeat([]api.Constraint{fine}, count-1), api.Constraint{})...))
	}
	for _, s := range list {
		if got, want := codeOutcome(sketch.Encode(s)), wantCode(s); got != want {
			t.Errorf("Encode(%d points, %d constraints) = %q instead of %q", s.Points, len(s.Constraints), got, want)
		}
	}
}

// P9.6: Decode undoes Encode, and accepts no proper prefix of an encoding, nor one
// with bytes after it; different sketches have different encodings.
func TestDecodeEncoded(t *testing.T) {
	known := map[string]api.Sketch{}
	list := sample.Sketches(600, 4)
	for i, c := range sample.Constraints(4) {
		list = append(list, sample.Sketch(4+i%5, c))
	}
	for _, s := range list {
		text, err := sketch.Encode(s)
		back, errBack := sketch.Decode(text)
		if err != api.OK || errBack != api.OK || !sketch.Same(s, back) {
			t.Errorf("Decode(%q) = %+v, %d instead of %+v", text, back, errBack, s)
		}
		if other, ok := known[text]; ok && !sketch.Same(s, other) {
			t.Errorf("%+v and %+v have the same encoding", s, other)
		}
		known[text] = s
		for i := range text {
			if checkDecode(t, text[:i]) {
				t.Errorf("%q is accepted, a prefix of %q", text[:i], text)
			}
		}
		for _, more := range []string{"\x00", "\x80", text} {
			if checkDecode(t, text+more) {
				t.Errorf("%q is accepted after %q", more, text)
			}
		}
	}
}

// P9.1, P9.6: encodings with any byte changed, removed or doubled; what is accepted
// is the encoding of the result.
func TestDecodeChanged(t *testing.T) {
	accepted := 0
	for _, s := range sample.Sketches(160, 5) {
		text, _ := sketch.Encode(s)
		for i := range text {
			codes := []string{text[:i] + text[i+1:], text[:i+1] + text[i:], text[:i] + "\x81\x00" + text[i+1:]}
			for _, b := range []byte{0, 1, 2, 3, 16, 18, 32, 34, '0', 0x7f, 0x80, 0xff, text[i] + 1, text[i] - 1, text[i] + 2, text[i] ^ 0x80} {
				codes = append(codes, text[:i]+string([]byte{b})+text[i+1:])
			}
			for _, c := range codes {
				if checkDecode(t, c) {
					accepted++
					back, _ := sketch.Decode(c)
					if again, err := sketch.Encode(back); again != c || err != api.OK {
						t.Errorf("%q is decoded, and encoded as %q", c, again)
					}
				}
			}
		}
	}
	if accepted < 1000 {
		t.Errorf("only %d changed encodings are accepted", accepted)
	}
}

// P9.1: all short strings of the bytes that matter.
func TestDecodeShort(t *testing.T) {
	for _, s := range sample.Strings("\x00\x01\x02\x04\x06\x0e\x12\x22", 5) {
		checkDecode(t, s)
		checkDecode(t, strings.ReplaceAll(s, "\x0e", "\x80"))
	}
	for i := range 3000 {
		checkDecode(t, "\x04\x02"+sample.Bytes(i%12, uint64(i)))
	}
}

// P9.1: the first of the errors, in the order of the chapter.
func TestDecodeErrors(t *testing.T) {
	wire, invalid := sample.Failure(api.ErrWire), refused
	code := sample.Code
	fix := code(1, 0, "1", "1", "1", "1")
	for i, c := range []struct{ code, want string }{
		{"", wire}, {"\x80", wire}, {"\x80\x00", wire}, {code(2), wire}, {code(2) + "\x80", wire}, {code(2) + "\x80\x00", wire},
		{strings.Repeat("\xff", 8) + "\x7f" + code(0), wire}, {strings.Repeat("\xff", 9) + "\x01" + code(0), wire}, {code(2) + strings.Repeat("\xff", 8) + "\x7f", wire},
		{code(1<<62-1, 0), invalid}, {code(-(1<<62 - 1), 0), invalid}, {code(0, 0), invalid}, {code(-1, 0), invalid}, {code(9, 0), invalid}, {code(9, 0) + "x", wire}, {code(9, 1), wire},
		// The number of constraints is examined before anything behind it.
		{code(2, 17), invalid}, {code(2, -1), invalid}, {code(2, -1) + "x", invalid}, {code(2, 1<<62-1) + "x", invalid}, {code(0, 17) + "\x80", invalid}, {code(2, 16), wire},
		{code(8, 16) + strings.Repeat(code(3, 0, 1), 16), "ok"}, {code(8, 16) + strings.Repeat(code(3, 0, 1), 15), wire}, {code(8, 16) + strings.Repeat(code(3, 0, 1), 17), wire}, {code(8, 15) + strings.Repeat(code(3, 0, 1), 16), wire},
		// So is a kind.
		{code(2, 1, 0), invalid}, {code(2, 1, 9), invalid}, {code(2, 1, -1), invalid}, {code(2, 1, 9) + "\x80", invalid}, {code(2, 1, 9, 0, 1, 2), invalid}, {code(2, 1, 1<<62-1), invalid}, {code(2, 2) + fix + code(9), invalid}, {code(0, 2) + fix + code(9) + "x", invalid}, {code(2, 2, 3, 0, 0, 0) + "\x80", invalid},
		{code(2, 2, 9) + fix, invalid}, {code(2, 1) + "\x80\x00", wire},
		// The other values are read first, and examined in the end.
		{code(2, 1, 3, 0, 0), invalid}, {code(2, 1, 3, 0, 0) + "x", wire}, {code(2, 1, 3, 0), wire}, {code(2, 1, 3, 0, 1), "ok"}, {code(2, 1, 3, 0, 2), invalid}, {code(2, 1, 3, -1, 1), invalid}, {code(2, 1, 3, 0, 1, 2), wire}, {code(2, 1, 3, 0, 1<<62-1), invalid}, {code(2, 2, 3, 0, 0), wire}, {code(2, 1, 3) + "\x80\x00" + code(1), wire},
		{code(1, 1) + fix, "ok"}, {code(1, 1) + fix + fix, wire}, {code(1, 1) + fix[:len(fix)-1], wire}, {code(1, 1, 1, 0, "1", "1", "1", "2"), "ok"}, {code(1, 1, 1, 0, "1", "1", "2", "2"), invalid}, {code(1, 1, 1, 0, "1", "0", "1", "1"), invalid}, {code(1, 1, 1, 0, "1", "", "1", "1"), invalid}, {code(1, 1, 1, 0, "1", "", "1"), wire}, {code(1, 1, 1, 0, "1", -1, "1", "1"), wire}, {code(1, 1, 1, 1, "1", "1", "1", "1"), invalid}, {code(1, 1, 1, 0, "1", "1"), wire},
		{code(2, 1, 2, 1, 0, "5", "2"), "ok"}, {code(2, 1, 2, 1, 0, "-5", "2"), invalid}, {code(2, 1, 2, 1, 0, "0", "1"), invalid}, {code(2, 1, 2, 1, 0, "5"), wire}, {code(2, 1, 2, 1, 1, "5", "2"), invalid}, {code(2, 1, 2, 1, 0, "5", "2", "1", "1"), wire},
		{code(2, 1, 2, 1, 0, strings.Repeat("9", 12), "2"), "ok"}, {code(2, 1, 2, 1, 0, strings.Repeat("9", 13), "2"), invalid}, {code(2, 1, 2, 1, 0, strings.Repeat("9", 65536), "2"), invalid}, {code(2, 1, 2, 1, 0, strings.Repeat("9", 65537), "2"), wire}, {code(2, 1, 2, 1, 0, 65537), wire}, {code(2, 1, 2, 1, 0, 1<<62-1), wire},
		{code(3, 1, 5, 0, 1, 2), "ok"}, {code(3, 1, 5, 0, 1, 1), invalid}, {code(3, 1, 5, 0, 1), wire}, {code(3, 1, 6, 0, 1, 0, 1), "ok"}, {code(3, 1, 6, 0, 1, 1, 1), invalid}, {code(3, 1, 6, 0, 1, 2), wire}, {code(3, 1, 7, 2, 1, 0), "ok"}, {code(3, 1, 8, 2, 1, 0), "ok"}, {code(3, 1, 8, 2, 1, 0, 0), wire},
	} {
		s, err := sketch.Decode(c.code)
		got := "ok"
		if err != api.OK {
			got = sketchOutcome(s, err)
		}
		if got != c.want {
			t.Errorf("%d: Decode(%.100q) = %s instead of %s", i, c.code, got, c.want)
		}
		checkDecode(t, c.code)
	}
}

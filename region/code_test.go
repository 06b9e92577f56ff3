package region_test

import (
	"slices"
	"strconv"
	"strings"
	"testing"

	"workpiece/api"
	"workpiece/region"
	"workpiece/sample"
)

// codeOf returns the encoding of r, which need not be valid.
func codeOf(r api.Region) string {
	out := sample.Code(len(r.Curves))
	for _, c := range r.Curves {
		out += sample.Code(c.Kind, c.A, c.B, c.C)
	}
	out += sample.Code(len(r.Nodes))
	for _, n := range r.Nodes {
		out += sample.Code(n.Op, n.Curve, n.Left, n.Right)
	}
	return out
}

// wantDecode returns the outcome of Decode.
func wantDecode(code string) string {
	s := sample.Scanner{Rest: code}
	var out api.Region
	count := s.Int()
	if count < 0 || count > 24 {
		s.Fail(api.ErrRegion)
	}
	for i := 0; i < count && s.Err == api.OK; i++ {
		c := api.Curve{Kind: s.Int(), A: s.Ratio(), B: s.Ratio(), C: s.Ratio()}
		out.Curves = append(out.Curves, c)
	}
	if count = s.Int(); count < 0 || count > 120 {
		s.Fail(api.ErrRegion)
	}
	for i := 0; i < count && s.Err == api.OK; i++ {
		n := api.RegionNode{Op: s.Int(), Curve: s.Int(), Left: s.Int(), Right: s.Int()}
		out.Nodes = append(out.Nodes, n)
	}
	s.End()
	if !sample.IsRegion(out) {
		s.Fail(api.ErrRegion)
	}
	if s.Err != api.OK {
		return sample.Failure(s.Err)
	}
	return text(out)
}

// checkDecode checks Decode of code, and returns whether it is an encoding.
func checkDecode(t *testing.T, code string) bool {
	t.Helper()
	r, err := region.Decode(code)
	if got, want := regionOutcome(r, err), wantDecode(code); got != want {
		t.Errorf("Decode(%.300q) = %.900s instead of %.900s", code, got, want)
	}
	return err == api.OK
}

// P13.1: the encoding of a region is what the chapter says, and others have none.
func TestEncode(t *testing.T) {
	for i, r := range slices.Concat(regions(300, 61), []api.Region{{}, rectangle("0 0 2 1"), disc("-1/2 7 3"), leaves(sample.Curves(24, large(62), 63), 120)}) {
		got, err := region.Encode(r)
		if want := codeOf(r); got != want || err != api.OK {
			t.Errorf("%d: Encode(%s) = %q, %d instead of %q", i, text(r), got, err, want)
		}
	}
	for i, r := range sample.InvalidRegions() {
		if got, err := region.Encode(r); got != "" || err != api.ErrRegion {
			t.Errorf("%d: Encode(%.500s) = %.500q, %d", i, text(r), got, err)
		}
	}
	if got, err := region.Encode(disc("0 -1/2 3")); got != "\x02\x04\x020\x021\x04-1\x022\x029\x021\x02\x02\x00\x00\x00" || err != api.OK {
		t.Errorf("Encode of a disc = %q, %d", got, err)
	}
}

// P13.7: Decode undoes Encode, and accepts no proper prefix of an encoding, nor one with
// bytes after it; different regions have different encodings.
func TestDecodeEncoded(t *testing.T) {
	t.Parallel()
	known := map[string]api.Region{}
	for i, r := range slices.Concat(sample.Regions(150, few, 64), sample.Regions(30, large(65), 66), []api.Region{{}, rectangle("0 0 2 1"), disc("0 0 1")}) {
		s, err := region.Encode(r)
		back, errBack := region.Decode(s)
		if err != api.OK || errBack != api.OK || !region.Same(r, back) {
			t.Errorf("Decode(%q) = %s, %d instead of %s", s, text(back), errBack, text(r))
		}
		if other, ok := known[s]; ok && !region.Same(r, other) {
			t.Errorf("%s and %s have the same encoding", text(r), text(other))
		}
		known[s] = r
		for at := i % 7; at < len(s); at += 1 + len(s)/200 {
			if checkDecode(t, s[:at]) {
				t.Errorf("%q is accepted, a prefix of %q", s[:at], s)
			}
		}
		for _, more := range []string{"\x00", "\x80", s} {
			if checkDecode(t, s+more) {
				t.Errorf("%q is accepted after %q", more, s)
			}
		}
	}
}

// P13.1, P13.7: encodings with any byte changed, removed or doubled; what is accepted is
// the encoding of the result.
func TestDecodeChanged(t *testing.T) {
	t.Parallel()
	accepted := 0
	// One of each size, up to some curves.
	for _, r := range append(sample.Regions(9, few, 67), sample.Regions(4, sample.Fractions(30, 30, 68), 69)...) {
		s, _ := region.Encode(r)
		for i := range s {
			codes := []string{s[:i] + s[i+1:], s[:i+1] + s[i:], s[:i] + "\x81\x00" + s[i+1:]}
			for _, b := range []byte{0, 1, 2, 3, 4, 6, 8, 10, 48, 50, 0x7f, 0x80, 0xff, s[i] + 1, s[i] - 1, s[i] + 2, s[i] ^ 0x80} {
				codes = append(codes, s[:i]+string([]byte{b})+s[i+1:])
			}
			for _, c := range codes {
				if checkDecode(t, c) {
					accepted++
					back, _ := region.Decode(c)
					if again, err := region.Encode(back); again != c || err != api.OK {
						t.Errorf("%q is decoded, and encoded as %q", c, again)
					}
				}
			}
		}
	}
	if accepted < 1000 {
		t.Errorf("only %d changed encodings are accepted", accepted)
	}
}

// P13.1: all short strings of the bytes that matter, and some longer ones.
func TestDecodeShort(t *testing.T) {
	for _, s := range sample.Strings("\x00\x01\x02\x04\x06\x30\x32\x80", 5) {
		checkDecode(t, s)
		checkDecode(t, "\x02\x04\x020\x021\x020\x021\x021\x021"+s)
	}
	for i := range 3000 {
		checkDecode(t, "\x02\x02"+sample.Bytes(i%30, uint64(i)))
	}
}

// P13.1: regions that are not valid are refused, whatever is wrong, but for those whose
// numbers or strings are too great to be encoded.
func TestDecodeInvalid(t *testing.T) {
	for _, r := range sample.InvalidRegions() {
		if s := codeOf(r); checkDecode(t, s) {
			t.Errorf("Decode(%.300q) accepts %.500s", s, text(r))
		}
	}
}

// P13.1: the first of the errors, in the order of the chapter.
func TestDecodeErrors(t *testing.T) {
	wire, invalid := sample.Failure(api.ErrWire), refused
	code := sample.Code
	circle := code(2, "0", "1", "0", "1", "1", "1")
	line := func(bound string) string { return code(1, "1", "1", "0", "1", bound, "1") }
	lines := func(count int) string {
		out := ""
		for i := range count {
			out += line(strconv.Itoa(i))
		}
		return out
	}
	leaf := code(1, 0, 0, 0)
	for i, c := range []struct{ code, want string }{
		{"", wire}, {"\x80", wire}, {"\x80\x00", wire}, {code(0), wire}, {code(0, 0), "ok"}, {code(0, 0, 0), wire}, {code(0) + "\x80", wire}, {code(0) + "\x80\x00", wire},
		{strings.Repeat("\xff", 8) + "\x7f", wire}, {strings.Repeat("\xff", 9) + "\x01", wire}, {code(0) + strings.Repeat("\xff", 8) + "\x7f", wire},
		// The number of curves is examined before anything behind it.
		{code(25), invalid}, {code(-1), invalid}, {code(1<<62 - 1), invalid}, {code(-(1<<62 - 1)), invalid}, {code(25) + "\x80", invalid}, {code(-1) + "\x80", invalid}, {code(25) + lines(25) + code(1) + leaf, invalid},
		{code(24), wire}, {code(24) + lines(24), wire}, {code(24) + lines(24) + code(1) + leaf, "ok"}, {code(24) + lines(23) + code(1) + leaf, wire}, {code(23) + lines(24) + code(1) + leaf, wire},
		// So is the number of nodes.
		{code(0, 121), invalid}, {code(0, -1), invalid}, {code(0, 1<<62-1), invalid}, {code(0, -(1<<62 - 1)), invalid}, {code(0, 121) + "\x80", invalid}, {code(1) + circle + code(121), invalid}, {code(1) + circle + code(-1) + "\x80", invalid}, {code(1) + circle + code(121) + strings.Repeat(leaf, 121), invalid},
		{code(0, 120), wire}, {code(1) + circle + code(120) + strings.Repeat(leaf, 120), "ok"}, {code(1) + circle + code(120) + strings.Repeat(leaf, 119), wire}, {code(1) + circle + code(119) + strings.Repeat(leaf, 120), wire},
		// An error of a string comes before the number of nodes.
		{code(1, 2, "0", "1", "0", "1", "1", -1, 121), wire}, {code(1, 2, "0", "1", "0", "1", "1", 65537, 121), wire}, {code(1, 2, "0", "1", "0", "1", "1", 1<<62-1), wire}, {code(1, 2, "0", "1", "0", "1", "1"), wire}, {code(1, 2, "0", "1", "0", "1"), wire}, {code(1, 2), wire}, {code(1), wire}, {code(1) + "\x80\x00" + circle[1:] + code(121), wire},
		// The curves are read first, and examined in the end.
		{code(1, 7, "0", "1", "0", "1", "1", "1"), wire}, {code(1, 7, "0", "1", "0", "1", "1", "1", 121), invalid}, {code(1, 7, "0", "1", "0", "1", "1", "1", 1) + leaf, invalid}, {code(1, 7, "0", "1", "0", "1", "1", "1", 1) + leaf + "x", wire}, {code(1, 1<<62-1, "0", "1", "0", "1", "1", "1", 1) + leaf, invalid},
		{code(1, 2, "0", "1", "0", "1", "0", "1", 1) + leaf, invalid}, {code(1, 2, "0", "2", "0", "1", "1", "1", 1) + leaf, invalid}, {code(1, 2, "", "", "", "", "", "", 1) + leaf, invalid}, {code(1, 2, "", "", "", "", "", "", 1) + leaf + "\x00", wire}, {code(1, 2, "0", "1", "x", "1", "1", "1", 1) + leaf[:3], wire},
		{code(1, 2, "0", "1", "0", "1", strings.Repeat("9", 200), "1", 1) + leaf, "ok"}, {code(1, 2, "0", "1", "0", "1", strings.Repeat("9", 201), "1", 1) + leaf, invalid}, {code(1, 2, "0", "1", "0", "1", strings.Repeat("9", 65536), "1", 1) + leaf, invalid}, {code(1, 2, "0", "1", "0", "1", strings.Repeat("9", 65537), "1", 1) + leaf, wire},
		{code(2) + circle + circle + code(1) + leaf, invalid}, {code(2) + circle + circle + code(1) + leaf + "x", wire}, {code(2) + circle + line("0") + code(1) + leaf, "ok"}, {code(1) + circle + code(0), invalid}, {code(1) + circle + code(0, 0), wire},
		// So are the nodes.
		{code(0, 1) + leaf, invalid}, {code(0, 1) + leaf + "x", wire}, {code(1) + circle + code(1, 1, 0, 0), wire}, {code(1) + circle + code(1, 1, 0, 0) + "\x80", wire}, {code(1) + circle + code(1, 0, 0, 0, 0), invalid}, {code(1) + circle + code(1, 9, 0, 0, 0), invalid}, {code(1) + circle + code(1, 9, 0, 0), wire}, {code(1) + circle + code(1, 1, 1, 0, 0), invalid}, {code(1) + circle + code(1, 1, 0, 1, 0), invalid}, {code(1) + circle + code(1, 1, 0, 0, 1), invalid}, {code(1) + circle + code(1, 2, 0, 0, 0), invalid},
		{code(1) + circle + code(2) + leaf + code(2, 0, 0, 0), "ok"}, {code(1) + circle + code(2) + leaf + code(3, 0, 0, 0), "ok"}, {code(1) + circle + code(2) + leaf + code(4, 0, 0, 0), "ok"}, {code(1) + circle + code(2) + leaf + code(4, 0, 0, 1), invalid}, {code(1) + circle + code(2) + leaf + code(4, 1, 0, 0), invalid}, {code(1) + circle + code(2) + leaf + code(2, 0, -1, 0), invalid}, {code(1) + circle + code(2) + leaf + code(2, 0, 1<<62-1, 0), invalid}, {code(1) + circle + code(2) + leaf, wire}, {code(1) + circle + code(2) + code(9, 9, 9, 9), wire},
	} {
		r, err := region.Decode(c.code)
		got := "ok"
		if err != api.OK {
			got = regionOutcome(r, err)
		}
		if got != c.want {
			t.Errorf("%d: Decode(%.100q) = %s instead of %s", i, c.code, got, c.want)
		}
		checkDecode(t, c.code)
	}
}

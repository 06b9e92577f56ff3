package solid_test

import (
	"slices"
	"strings"
	"testing"

	"workpiece/api"
	"workpiece/region"
	"workpiece/sample"
	"workpiece/solid"
)

// regionCode returns the encoding of r, which need not be valid.
func regionCode(r api.Region) string {
	out := sample.Code(len(r.Curves))
	for _, c := range r.Curves {
		out += sample.Code(c.Kind, c.A, c.B, c.C)
	}
	out += sample.Code(len(r.Nodes))
	for _, n := range r.Nodes {
		out += sample.Code(n.Op, n.Curve, n.Left, n.Right)
	}
	return out
}

// codeOf returns the encoding of s, which need not be valid.
func codeOf(s api.Solid) string {
	out := sample.Code(len(s.Prisms))
	for _, p := range s.Prisms {
		cut := map[bool]int{false: 0, true: 1}[p.Cut]
		out += sample.Code(regionCode(p.Region), p.Lo, p.Hi, cut, p.Feature)
	}
	return out
}

// wantDecode returns the outcome of Decode.
func wantDecode(code string) string {
	s := sample.Scanner{Rest: code}
	var out api.Solid
	count := s.Int()
	if count < 0 || count > 16 {
		s.Fail(api.ErrSolid)
	}
	for i := 0; i < count && s.Err == api.OK; i++ {
		shape := s.String()
		p := api.Prism{Lo: s.Ratio(), Hi: s.Ratio()}
		cut := s.Int()
		p.Cut, p.Feature = cut == 1, s.Int()
		if r, err := region.Decode(shape); err == api.OK && (cut == 0 || cut == 1) {
			p.Region = r
		} else {
			s.Fail(api.ErrSolid)
		}
		out.Prisms = append(out.Prisms, p)
	}
	s.End()
	if !sample.IsSolid(out) {
		s.Fail(api.ErrSolid)
	}
	if s.Err != api.OK {
		return sample.Failure(s.Err)
	}
	return text(out)
}

// checkDecode checks Decode of code, and returns whether it is an encoding.
func checkDecode(t *testing.T, code string) bool {
	t.Helper()
	s, err := solid.Decode(code)
	if got, want := outcome(s, err), wantDecode(code); got != want {
		t.Errorf("Decode(%.300q) = %.900s instead of %.900s", code, got, want)
	}
	return err == api.OK
}

// P15.1: the encoding of a solid is what the chapter says, and others have none.
func TestEncode(t *testing.T) {
	list := append(solids(34, 61), api.Solid{}, drilled(), largest())
	for i, s := range list {
		got, err := solid.Encode(s)
		if want := codeOf(s); got != want || err != api.OK {
			t.Errorf("%d: Encode(%.900s) = %.900q, %d instead of %.900q", i, text(s), got, err, want)
		}
	}
	for i, s := range sample.InvalidSolids() {
		if got, err := solid.Encode(s); got != "" || err != api.ErrSolid {
			t.Errorf("%d: Encode(%.500s) = %.500q, %d", i, text(s), got, err)
		}
	}
	s := api.Solid{Prisms: []api.Prism{{Lo: number("-1/2"), Hi: number("3"), Cut: true, Feature: 300}}}
	if got, err := solid.Encode(s); got != "\x02\x04\x00\x00\x04-1\x022\x023\x021\x02\xd8\x04" || err != api.OK {
		t.Errorf("Encode of a prism over nothing = %q, %d", got, err)
	}
}

// largest returns a solid whose encoding is as long as it can be, or nearly so.
func largest() api.Solid {
	nines := sample.Nines()
	den := nines[:199] + "8"
	wide := sample.Fraction("-"+nines, den)
	lines := api.Region{Nodes: slices.Repeat([]api.RegionNode{sample.Leaf(23)}, 120)}
	for i := range 24 {
		bound := sample.Fraction("-"+nines[:50+i]+"8"+nines[51+i:], den)
		lines.Curves = append(lines.Curves, api.Curve{Kind: api.KLine, A: number("-1"), B: wide, C: bound})
	}
	p := api.Prism{Region: lines, Lo: wide, Hi: number(nines), Cut: true, Feature: 1000000}
	return api.Solid{Prisms: slices.Repeat([]api.Prism{p}, 16)}
}

// P15.6: Decode undoes Encode, and accepts no proper prefix of an encoding, nor one with
// bytes after it; different solids have different encodings.
func TestDecodeEncoded(t *testing.T) {
	t.Parallel()
	known := map[string]string{}
	for i, s := range append(solids(34, 62), api.Solid{}, drilled(), largest()) {
		code, err := solid.Encode(s)
		back, errBack := solid.Decode(code)
		if err != api.OK || errBack != api.OK || !solid.Same(s, back) {
			t.Errorf("Decode(%.900q) = %.900s, %d instead of %.900s", code, text(back), errBack, text(s))
		}
		if other, ok := known[code]; ok && other != text(s) {
			t.Errorf("%.900s and %.900s have the same encoding", text(s), other)
		}
		known[code] = text(s)
		for at := i % 7; at < len(code); at += 1 + len(code)/100 {
			if checkDecode(t, code[:at]) {
				t.Errorf("%.900q is accepted, a prefix of %.900q", code[:at], code)
			}
		}
		for _, more := range []string{"\x00", "\x80", code} {
			if checkDecode(t, code+more) {
				t.Errorf("%q is accepted after %.900q", more, code)
			}
		}
	}
	if len(known) < 100 {
		t.Errorf("only %d solids", len(known))
	}
}

// P15.6: all proper prefixes of some encodings.
func TestDecodePrefixes(t *testing.T) {
	for _, s := range append(shaped(10, 3, 63), drilled()) {
		code, err := solid.Encode(s)
		if err != api.OK {
			t.Errorf("Encode(%s) = %d", text(s), err)
		}
		for at := range len(code) {
			if checkDecode(t, code[:at]) {
				t.Errorf("%q is accepted, a prefix of %q", code[:at], code)
			}
		}
	}
}

// P15.1, P15.6: encodings with any byte changed, removed or doubled; what is accepted is
// the encoding of the result.
func TestDecodeChanged(t *testing.T) {
	t.Parallel()
	accepted := 0
	for _, s := range append(shaped(6, 2, 64), api.Solid{Prisms: []api.Prism{{Lo: number("-1/2"), Hi: number("30"), Cut: true, Feature: 300}, {Lo: number("0"), Hi: number("1/10")}}}) {
		code, _ := solid.Encode(s)
		for i := range code {
			codes := []string{code[:i] + code[i+1:], code[:i+1] + code[i:], code[:i] + "\x81\x00" + code[i+1:]}
			for _, b := range []byte{0, 1, 2, 3, 4, 6, 8, 10, 48, 50, 0x7f, 0x80, 0xff, code[i] + 1, code[i] - 1, code[i] + 2, code[i] ^ 0x80} {
				codes = append(codes, code[:i]+string([]byte{b})+code[i+1:])
			}
			for _, c := range codes {
				if checkDecode(t, c) {
					accepted++
					back, _ := solid.Decode(c)
					if again, err := solid.Encode(back); again != c || err != api.OK {
						t.Errorf("%q is decoded, and encoded as %q", c, again)
					}
				}
			}
		}
	}
	if accepted < 500 {
		t.Errorf("only %d changed encodings are accepted", accepted)
	}
}

// P15.1: all short strings of the bytes that matter, and some longer ones.
func TestDecodeShort(t *testing.T) {
	for _, s := range sample.Strings("\x00\x01\x02\x04\x06\x30\x32\x80", 5) {
		checkDecode(t, s)
		checkDecode(t, "\x02\x04\x00\x00\x020\x021\x021"+s)
	}
	for i := range 3000 {
		checkDecode(t, "\x02\x04\x00\x00\x02"+sample.Bytes(i%30, uint64(i)))
	}
}

// P15.1: solids that are not valid are refused, whatever is wrong, but for those whose
// numbers or strings are too great to be encoded.
func TestDecodeInvalid(t *testing.T) {
	for _, s := range sample.InvalidSolids() {
		if code := codeOf(s); checkDecode(t, code) {
			t.Errorf("Decode(%.300q) accepts %.500s", code, text(s))
		}
	}
}

// P15.1: the first of the errors, in the order of the chapter.
func TestDecodeErrors(t *testing.T) {
	wire, invalid := sample.Failure(api.ErrWire), refused
	code := sample.Code
	disc := regionCode(sample.Shape("disc 0 0 1"))
	prism := func(shape string, parts ...any) string { return code(shape) + code(parts...) }
	good := prism(disc, "0", "1", "1", "1", 0, 7)
	nothing := prism("\x00\x00", "0", "1", "1", "1", 1, 0)
	for i, c := range []struct{ code, want string }{
		{"", wire}, {"\x80", wire}, {"\x80\x00", wire}, {strings.Repeat("\xff", 9) + "\x01", wire}, {code(0), "ok"}, {code(0, 0), wire}, {code(0) + "x", wire},
		// The number of prisms is examined before anything behind it.
		{code(17), invalid}, {code(-1), invalid}, {code(1<<62 - 1), invalid}, {code(-(1<<62 - 1)), invalid}, {code(17) + "\x80", invalid}, {code(-1) + "\x80", invalid}, {code(17) + strings.Repeat(good, 17), invalid},
		{code(16), wire}, {code(16) + strings.Repeat(good, 16), "ok"}, {code(16) + strings.Repeat(nothing, 16), "ok"}, {code(16) + strings.Repeat(good, 15), wire}, {code(15) + strings.Repeat(good, 16), wire}, {code(1) + good, "ok"}, {code(2) + good + nothing, "ok"}, {code(2) + good, wire}, {code(1) + good + nothing, wire},
		// Numbers and strings are expected.
		{code(1), wire}, {code(1) + "\x80\x00", wire}, {code(1, -1), wire}, {code(1, 65537), wire}, {code(1, 3) + "\x00\x00", wire}, {code(1) + prism(disc), wire}, {code(1) + prism(disc, "0", "1", "1"), wire}, {code(1) + prism(disc, "0", "1", "1", "1"), wire}, {code(1) + prism(disc, "0", "1", "1", "1", 0), wire}, {code(1) + prism(disc, "0", "1", "1", "1", 0) + "\x80", wire}, {code(1) + prism(disc, "0", "1", "1", "1") + "\x80\x00" + code(7), wire}, {code(1) + prism(disc, "0", "1", -1), wire}, {code(1) + prism(disc, "0", "1", "1", "1", 1<<62-1, 7), invalid}, {code(1) + prism(disc, "0", "1", "1", "1", 0, 1<<62-1), invalid},
		// The region and Cut are examined as soon as the prism has been read, and not before.
		{code(1) + prism("", "0", "1", "1", "1", 0, 7), invalid}, {code(1) + prism("\x80", "0", "1", "1", "1", 0, 7), invalid}, {code(1) + prism(disc+"\x00", "0", "1", "1", "1", 0, 7), invalid}, {code(1) + prism(disc[1:], "0", "1", "1", "1", 0, 7), invalid}, {code(1) + prism("\x32", "0", "1", "1", "1", 0, 7), invalid}, {code(1) + prism("", "0", "1", "1", "1", 0), wire}, {code(1) + prism(""), wire}, {code(1) + prism("\x32", "0", "1", "1", "1", 0) + "\x80", wire}, {code(1) + prism("", "0", "1", "1", "1", 9), wire},
		{code(1) + prism(disc, "0", "1", "1", "1", 2, 7), invalid}, {code(1) + prism(disc, "0", "1", "1", "1", -1, 7), invalid}, {code(1) + prism(disc, "0", "1", "1", "1", 2), wire}, {code(1) + prism(disc, "0", "1", "1", "1", -1) + "\x80\x00", wire}, {code(1) + prism(disc, "0", "1", "1", "1", 1, 7), "ok"},
		{code(1) + prism("", "0", "1", "1", "1", 0, 7) + "x", invalid}, {code(1) + prism(disc, "0", "1", "1", "1", 2, 7) + "x", invalid}, {code(2) + prism("", "0", "1", "1", "1", 0, 7), invalid}, {code(2) + prism(disc, "0", "1", "1", "1", 2, 7), invalid}, {code(2) + good + prism("", "0", "1", "1", "1", 0, 7), invalid}, {code(2) + good + prism(disc, "0", "1", "1", "1", 2, 7), invalid}, {code(3) + good + prism(disc, "0", "1", "1", "1", 2, 7) + "\x80", invalid},
		// The rest is examined in the end.
		{code(1) + prism(disc, "0", "1", "0", "1", 0, 7), invalid}, {code(1) + prism(disc, "0", "1", "0", "1", 0, 7) + "x", wire}, {code(2) + prism(disc, "0", "1", "0", "1", 0, 7), wire}, {code(1) + prism(disc, "1", "1", "0", "1", 0, 7), invalid}, {code(1) + prism(disc, "", "", "", "", 0, 7), invalid}, {code(1) + prism(disc, "", "", "", "", 0, 7) + "x", wire}, {code(1) + prism(disc, "0", "2", "1", "1", 0, 7), invalid}, {code(1) + prism(disc, "0", "1", "2", "2", 0, 7), invalid},
		{code(1) + prism(disc, "0", "1", "1", "1", 0, -1), invalid}, {code(1) + prism(disc, "0", "1", "1", "1", 0, 1000001), invalid}, {code(1) + prism(disc, "0", "1", "1", "1", 0, -1) + "x", wire}, {code(2) + prism(disc, "0", "1", "1", "1", 0, 1000001), wire}, {code(2) + prism(disc, "0", "1", "1", "1", 0, 1000001) + prism("", "0", "1", "1", "1", 0, 7) + "x", invalid}, {code(1) + prism(disc, "0", "1", "1", "1", 0, 1000000), "ok"}, {code(1) + prism(disc, "0", "1", "1", "1", 0, 0), "ok"},
		{code(1) + prism(disc, "0", "1", strings.Repeat("9", 200), "1", 0, 7), "ok"}, {code(1) + prism(disc, "0", "1", strings.Repeat("9", 201), "1", 0, 7), invalid}, {code(1) + prism(disc, "0", "1", strings.Repeat("9", 65536), "1", 0, 7), invalid}, {code(1) + prism(disc, "0", "1", strings.Repeat("9", 65537), "1", 0, 7), wire}, {code(1) + prism(strings.Repeat("9", 65536), "0", "1", "1", "1", 0, 7), invalid}, {code(1) + prism(strings.Repeat("9", 65537), "0", "1", "1", "1", 0, 7), wire},
	} {
		s, err := solid.Decode(c.code)
		got := "ok"
		if err != api.OK {
			got = outcome(s, err)
		}
		if got != c.want {
			t.Errorf("%d: Decode(%.100q) = %s instead of %s", i, c.code, got, c.want)
		}
		checkDecode(t, c.code)
	}
}

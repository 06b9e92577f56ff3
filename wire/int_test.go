package wire_test

import (
	"math"
	"math/big"
	"testing"

	"workpiece/api"
	"workpiece/wire"
)

// edgeInts returns the integers near the ends of the range of PutInt and near
// all places where an encoding becomes longer, each once and in ascending order.
func edgeInts() []int {
	var upper []int
	for n := 1; n <= 300; n++ {
		upper = append(upper, n)
	}
	for bit := 9; bit <= 61; bit++ {
		for d := -2; d <= 2; d++ {
			upper = append(upper, 1<<bit+d)
		}
	}
	upper = append(upper, api.MaxInt-1, api.MaxInt)
	all := []int{0}
	for _, n := range upper {
		all = append([]int{-n}, all...)
		all = append(all, n)
	}
	return all
}

// refPutInt follows the chapter's definition of the encoding in numbers of any size.
func refPutInt(n int) string {
	z := new(big.Int).Mul(big.NewInt(2), big.NewInt(int64(n)))
	if n < 0 {
		z.Neg(z).Sub(z, big.NewInt(1))
	}
	var out []byte
	for {
		group := new(big.Int)
		z.DivMod(z, big.NewInt(128), group)
		if z.Sign() == 0 {
			return string(append(out, byte(group.Int64())))
		}
		out = append(out, byte(group.Int64())+128)
	}
}

// refInt decodes the integer at the beginning of s in numbers of any size.
func refInt(s string) (n, next int, ok bool) {
	z := new(big.Int)
	for i := 0; i < len(s); i++ {
		group := big.NewInt(int64(s[i] % 128))
		z.Add(z, group.Lsh(group, uint(7*i)))
		if s[i] >= 128 {
			continue
		}
		if s[i] == 0 && i > 0 {
			return 0, 0, false
		}
		half := new(big.Int).Rsh(z, 1)
		if z.Bit(0) == 1 {
			half.Add(half, big.NewInt(1)).Neg(half)
		}
		if half.CmpAbs(big.NewInt(api.MaxInt)) > 0 {
			return 0, 0, false
		}
		return int(half.Int64()), i + 1, true
	}
	return 0, 0, false
}

// P1.1: the examples of the chapter, and the lengths of the encodings.
func TestIntExamples(t *testing.T) {
	for _, c := range []struct {
		n int
		s string
	}{
		{0, "\x00"}, {1, "\x02"}, {-1, "\x01"}, {2, "\x04"}, {-2, "\x03"},
		{63, "\x7e"}, {-64, "\x7f"}, {64, "\x80\x01"}, {-65, "\x81\x01"}, {150, "\xac\x02"},
		{8191, "\xfe\x7f"}, {-8192, "\xff\x7f"}, {8192, "\x80\x80\x01"},
		{api.MaxInt, "\xfe\xff\xff\xff\xff\xff\xff\xff\x7f"},
		{-api.MaxInt, "\xfd\xff\xff\xff\xff\xff\xff\xff\x7f"},
	} {
		if s, err := wire.PutInt(c.n); s != c.s || err != api.OK {
			t.Errorf("PutInt(%d) = %x, %d; want %x", c.n, s, err, c.s)
		}
		if n, next, err := wire.Int(c.s, 0); n != c.n || next != len(c.s) || err != api.OK {
			t.Errorf("Int(%x, 0) = %d, %d, %d; want %d", c.s, n, next, err, c.n)
		}
	}
}

// P1.1: every encoding is the one that the chapter defines, and decodes again.
func TestIntAgainstDefinition(t *testing.T) {
	check := func(n int) {
		want := refPutInt(n)
		s, err := wire.PutInt(n)
		if s != want || err != api.OK {
			t.Errorf("PutInt(%d) = %x, %d; want %x", n, s, err, want)
		}
		if m, next, err := wire.Int(want, 0); m != n || next != len(want) || err != api.OK {
			t.Errorf("Int(%x, 0) = %d, %d, %d; want %d", want, m, next, err, n)
		}
	}
	for n := -20000; n <= 20000; n++ {
		check(n)
	}
	for _, n := range edgeInts() {
		check(n)
	}
}

// P1.1: PutInt refuses what is not from -MaxInt to MaxInt.
func TestPutIntOutOfRange(t *testing.T) {
	for _, n := range []int{api.MaxInt + 1, -api.MaxInt - 1, api.MaxInt + 2, -api.MaxInt - 2, math.MaxInt, math.MinInt, math.MinInt + 1} {
		if s, err := wire.PutInt(n); s != "" || err != api.ErrWire {
			t.Errorf("PutInt(%d) = %x, %d; want ErrWire", n, s, err)
		}
	}
}

// P1.1: Int decodes at any offset, and does not examine what stands around.
func TestIntAtOffset(t *testing.T) {
	for _, before := range []string{"", "x", "\x00", "\x80\x80", "\xff\xff\xff"} {
		for _, after := range []string{"", "y", "\x00", "\x80", "\xff\xff"} {
			for _, n := range []int{0, 1, -1, 64, 150, -150, api.MaxInt, -api.MaxInt} {
				s := refPutInt(n)
				m, next, err := wire.Int(before+s+after, len(before))
				if m != n || next != len(before)+len(s) || err != api.OK {
					t.Errorf("Int(%x %x %x) = %d, %d, %d; want %d", before, s, after, m, next, err, n)
				}
			}
		}
	}
}

// P1.1: an offset outside of the string is ErrArg, whatever else is wrong.
func TestIntOffsetErrors(t *testing.T) {
	for _, s := range []string{"", "\x00", "\x80", "\x80\x00", "abc"} {
		for _, at := range []int{-1, len(s) + 1, -2, len(s) + 2, math.MinInt, math.MaxInt, math.MinInt32, math.MaxInt32} {
			if n, next, err := wire.Int(s, at); n != 0 || next != 0 || err != api.ErrArg {
				t.Errorf("Int(%x, %d) = %d, %d, %d; want ErrArg", s, at, n, next, err)
			}
		}
		if n, next, err := wire.Int(s, len(s)); n != 0 || next != 0 || err != api.ErrWire {
			t.Errorf("Int(%x, %d) = %d, %d, %d; want ErrWire", s, len(s), n, next, err)
		}
	}
}

// P1.1: encodings that end early, have a superfluous zero group, or are of
// integers out of range.
func TestIntMalformed(t *testing.T) {
	for _, s := range []string{
		"", "\x80", "\xff", "\xac\x80", "\xff\xff\xff\xff\xff\xff\xff\xff", "\xff\xff\xff\xff\xff\xff\xff\xff\xff", "\x80\x80\x80\x80\x80\x80\x80\x80\x80\x80\x80",
		"\x80\x00", "\x81\x00", "\xff\x00", "\xac\x82\x00", "\x80\x80\x00", "\xfe\xff\xff\xff\xff\xff\xff\xff\xff\x00",
		"\xff\xff\xff\xff\xff\xff\xff\xff\x7f",
		"\x80\x80\x80\x80\x80\x80\x80\x80\x80\x01", "\x81\x80\x80\x80\x80\x80\x80\x80\x80\x01", "\x80\x80\x80\x80\x80\x80\x80\x80\x80\x02", "\x82\x80\x80\x80\x80\x80\x80\x80\x80\x80\x80\x01", "\xac\x82\x80\x80\x80\x80\x80\x80\x80\x80\x00",
	} {
		for _, before := range []string{"", "\x00", "\x80"} {
			if n, next, err := wire.Int(before+s, len(before)); n != 0 || next != 0 || err != api.ErrWire {
				t.Errorf("Int(%x, %d) = %d, %d, %d; want ErrWire", before+s, len(before), n, next, err)
			}
		}
	}
}

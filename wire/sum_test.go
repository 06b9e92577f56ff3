package wire_test

import (
	"hash/crc32"
	"strings"
	"testing"

	"workpiece/sample"
	"workpiece/wire"
)

// refSum follows the chapter's definition of the checksum bit by bit.
func refSum(s string) int {
	register := uint32(0xFFFFFFFF)
	for i := range len(s) {
		register ^= uint32(s[i])
		for range 8 {
			out := register & 1
			register >>= 1
			if out == 1 {
				register ^= 0x82F63B78
			}
		}
	}
	return int(^register)
}

// P1.3: the example of the chapter, and checksums that are known elsewhere.
func TestSumKnown(t *testing.T) {
	var up, down []byte
	for i := range 32 {
		up, down = append(up, byte(i)), append(down, byte(31-i))
	}
	for _, c := range []struct {
		s    string
		want int
	}{
		{"123456789", 3808858755}, {"", 0}, {"a", 3251651376},
		{strings.Repeat("\x00", 32), 0x8A9136AA}, {strings.Repeat("\xff", 32), 0x62A8AB43},
		{string(up), 0x46DD794E}, {string(down), 0x113FDB5C},
	} {
		if n := wire.Sum(c.s); n != c.want {
			t.Errorf("Sum(%q) = %d, want %d", c.s, n, c.want)
		}
	}
}

// P1.3: all strings of up to two bytes, and longer ones of any content.
func TestSumAgainstDefinition(t *testing.T) {
	castagnoli := crc32.MakeTable(crc32.Castagnoli)
	check := func(s string) {
		want := refSum(s)
		if n := wire.Sum(s); n != want || n != int(crc32.Checksum([]byte(s), castagnoli)) {
			t.Errorf("Sum(%.20q) of %d bytes = %d, want %d", s, len(s), n, want)
		}
	}
	for i := range 256 {
		check(string([]byte{byte(i)}))
		for j := range 256 {
			check(string([]byte{byte(i), byte(j)}))
		}
	}
	for size := range 300 {
		check(sample.Bytes(size, uint64(size)))
	}
	check(sample.Bytes(200000, 7))
}

// P1.3: a checksum is an integer from 0 to 4294967295, and both halves occur.
func TestSumRange(t *testing.T) {
	great := 0
	for seed := range 1000 {
		n := wire.Sum(sample.Bytes(9, uint64(seed)))
		if n < 0 || n > 4294967295 {
			t.Errorf("Sum is %d", n)
		}
		if n >= 1<<31 {
			great++
		}
	}
	if great == 0 || great == 1000 {
		t.Errorf("%d of 1000 checksums have the highest bit", great)
	}
}

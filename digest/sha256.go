package digest

import "workpiece/api"

const (
	blockSize = 64

	// lengthAt is where the length of the string begins in the last block.
	lengthAt = 56

	// endMark follows the last byte of the string.
	endMark = 128
)

// A block is a part of the extended string.
type block [blockSize]byte

// A state consists of the words that become the digest.
type state [8]uint32

// initialState is the state before the first block.
var initialState = state{
	0x6a09e667, 0xbb67ae85, 0x3c6ef372, 0xa54ff53a, 0x510e527f, 0x9b05688c, 0x1f83d9ab, 0x5be0cd19,
}

// roundWords contains the word that each round adds.
var roundWords = [64]uint32{
	0x428a2f98, 0x71374491, 0xb5c0fbcf, 0xe9b5dba5, 0x3956c25b, 0x59f111f1, 0x923f82a4, 0xab1c5ed5,
	0xd807aa98, 0x12835b01, 0x243185be, 0x550c7dc3, 0x72be5d74, 0x80deb1fe, 0x9bdc06a7, 0xc19bf174,
	0xe49b69c1, 0xefbe4786, 0x0fc19dc6, 0x240ca1cc, 0x2de92c6f, 0x4a7484aa, 0x5cb0a9dc, 0x76f988da,
	0x983e5152, 0xa831c66d, 0xb00327c8, 0xbf597fc7, 0xc6e00bf3, 0xd5a79147, 0x06ca6351, 0x14292967,
	0x27b70a85, 0x2e1b2138, 0x4d2c6dfc, 0x53380d13, 0x650a7354, 0x766a0abb, 0x81c2c92e, 0x92722c85,
	0xa2bfe8a1, 0xa81a664b, 0xc24b8b70, 0xc76c51a3, 0xd192e819, 0xd6990624, 0xf40e3585, 0x106aa070,
	0x19a4c116, 0x1e376c08, 0x2748774c, 0x34b0bcb5, 0x391c0cb3, 0x4ed8aa4a, 0x5b9cca4f, 0x682e6ff3,
	0x748f82ee, 0x78a5636f, 0x84c87814, 0x8cc70208, 0x90befffa, 0xa4506ceb, 0xbef9a3f7, 0xc67178f2,
}

// sumOf returns the digest of the parts, one after the other.
func sumOf(parts ...string) string {
	words := initialState
	for b := range blocks(parts) {
		words = compress(words, b)
	}
	var out [api.DigestSize]byte
	for i, word := range words {
		out[4*i] = byte(word >> 24)
		out[4*i+1] = byte(word >> 16)
		out[4*i+2] = byte(word >> 8)
		out[4*i+3] = byte(word)
	}
	return string(out[:])
}

// blocks yields the blocks of the parts, one after the other, extended by the
// end mark, zero bytes and the length.
func blocks(parts []string) func(yield func(block) bool) {
	return func(yield func(block) bool) {
		var b block
		used, size := 0, 0
	fill:
		for _, part := range parts {
			size += len(part)
			for {
				n := copy(b[used:], part)
				part, used = part[n:], used+n
				if used < blockSize {
					continue fill
				}
				if !yield(b) {
					return
				}
				used = 0
			}
		}
		b[used] = endMark
		clear(b[used+1:])
		if used >= lengthAt {
			if !yield(b) {
				return
			}
			b = block{}
		}
		bits := 8 * uint64(size)
		for i := range blockSize - lengthAt {
			b[blockSize-1-i] = byte(bits >> (8 * i))
		}
		yield(b)
	}
}

// compress returns the state after the next block.
func compress(words state, next block) state {
	w := schedule(next)
	a, b, c, d, e, f, g, h := words[0], words[1], words[2], words[3], words[4], words[5], words[6], words[7]
	for i := range w {
		t := h + (rotated(e, 6) ^ rotated(e, 11) ^ rotated(e, 25)) + (e&f ^ ^e&g) + roundWords[i] + w[i]
		u := (rotated(a, 2) ^ rotated(a, 13) ^ rotated(a, 22)) + (a&b ^ a&c ^ b&c)
		h, g, f, e, d, c, b, a = g, f, e, d+t, c, b, a, t+u
	}
	for i, word := range [...]uint32{a, b, c, d, e, f, g, h} {
		words[i] += word
	}
	return words
}

// schedule returns the words of the block b, followed by those that are derived
// from them.
func schedule(b block) [64]uint32 {
	var w [64]uint32
	for i := range 16 {
		w[i] = uint32(b[4*i])<<24 | uint32(b[4*i+1])<<16 | uint32(b[4*i+2])<<8 | uint32(b[4*i+3])
	}
	for i := 16; i < len(w); i++ {
		x, y := w[i-15], w[i-2]
		x = rotated(x, 7) ^ rotated(x, 18) ^ x>>3
		y = rotated(y, 17) ^ rotated(y, 19) ^ y>>10
		w[i] = w[i-16] + x + w[i-7] + y
	}
	return w
}

// rotated returns x with its lowest n bits moved to the top.
func rotated(x uint32, n int) uint32 { return x>>n | x<<(32-n) }

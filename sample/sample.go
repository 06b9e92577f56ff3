// Package sample makes inputs for the tests of the layers. They look random, and
// are the same in every run.
package sample

// Bytes returns size bytes, which are different ones for different seeds.
func Bytes(size int, seed uint64) string {
	out := make([]byte, size)
	for i := range out {
		seed = seed*6364136223846793005 + 1442695040888963407
		out[i] = byte(seed >> 56)
	}
	return string(out)
}

// Package digest: the digest of bytes.
package digest

import "cairn/api"

const (
	start  uint64 = 14695981039346656037
	factor uint64 = 1099511628211
	spread uint64 = 11400714819323198485
)

// Of gives the digest of some bytes.
func Of(b []byte) api.Digest {
	n := start
	for _, c := range b {
		n = (n ^ uint64(c)) * factor
	}
	return fromNumber(stir(n))
}

// stir spreads what the bytes left in the high half of the number.
func stir(n uint64) uint64 {
	n ^= n >> 32
	n *= spread
	return n ^ n>>29
}

// fromNumber gives the number's bytes, the highest one first.
func fromNumber(n uint64) api.Digest {
	var d api.Digest
	for i := range d {
		d[len(d)-1-i] = byte(n >> (8 * i))
	}
	return d
}

// Package history: the log of roots, its sum, and its paths, made and checked.
package history

import (
	"math/bits"

	"cairn/api"
	"cairn/digest"
)

// Sum gives the sum of a log of these roots.
func Sum(roots []api.Digest) api.Digest {
	switch len(roots) {
	case 0:
		return digest.Of(nil)
	case 1:
		return sumOfOne(roots[0])
	}
	k := firstPart(len(roots))
	return sumOfTwo(Sum(roots[:k]), Sum(roots[k:]))
}

// firstPart gives the greatest power of 2 below n, which is at least 2.
func firstPart(n int) int {
	return 1 << (bits.Len(uint(n-1)) - 1)
}

// The byte ahead keeps a root from being taken for a sum, and the other way round.
func sumOfOne(root api.Digest) api.Digest {
	return digest.Of(append([]byte{0}, root[:]...))
}

func sumOfTwo(first, others api.Digest) api.Digest {
	b := append([]byte{1}, first[:]...)
	return digest.Of(append(b, others[:]...))
}

// Package proofs: proofs of keys and of ranges, made and read.
package proofs

import (
	"bytes"

	"cairn/tree"
)

// OfKey gives the proof of a key in the tree of a root page. It is that of the
// range from the key to itself: the first entry whose key is not less than the
// key is the only such one with nothing ahead, or with a lesser key ahead.
func OfKey(root *tree.Node, key []byte) []byte {
	return OfRange(root, key, key)
}

// OfRange gives the proof of a range in the tree of a root page.
func OfRange(root *tree.Node, from, to []byte) []byte {
	return appendPages(nil, root, from, to)
}

// appendPages appends a page and what is behind it.
func appendPages(proof []byte, n *tree.Node, from, to []byte) []byte {
	proof = append(proof, byte(len(n.Bytes)>>8), byte(len(n.Bytes)))
	proof = append(proof, n.Bytes...)
	for _, below := range within(n.Below, nodeKey, from, to) {
		proof = appendPages(proof, below, from, to)
	}
	return proof
}

// within gives those of a page's entries, or of the pages that they stand for,
// that belong to the proof of a range. A page's keys are all behind the key of
// the entry ahead: that one tells whether there can be a key less than to, not
// the entry's own key.
func within[T any](list []T, key func(T) []byte, from, to []byte) []T {
	var some []T
	for i, t := range list {
		reached := i == 0 || bytes.Compare(key(list[i-1]), to) < 0
		if reached && bytes.Compare(key(t), from) >= 0 {
			some = append(some, t)
		}
	}
	return some
}

func nodeKey(n *tree.Node) []byte { return n.Last }

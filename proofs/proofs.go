// Package proofs: proofs of keys and of ranges.
package proofs

import (
	"bytes"

	"cairn/tree"
)

// OfKey gives the proof of a key in the tree of a root page. It is that of the
// range from the key to itself: the first entry whose key is not less than the
// key is the only such one with nothing ahead, or with a lesser key ahead.
func OfKey(root *tree.Node, key []byte) []byte {
	return OfRange(root, key, key)
}

// OfRange gives the proof of a range in the tree of a root page.
func OfRange(root *tree.Node, from, to []byte) []byte {
	return appendPages(nil, root, from, to)
}

// appendPages appends a page and what is behind it.
func appendPages(proof []byte, n *tree.Node, from, to []byte) []byte {
	proof = append(proof, byte(len(n.Bytes)>>8), byte(len(n.Bytes)))
	proof = append(proof, n.Bytes...)
	for _, below := range within(n.Below, from, to) {
		proof = appendPages(proof, below, from, to)
	}
	return proof
}

// within gives those of the pages below a page that belong to the proof of a
// range. A page's keys are all behind the last one of the page ahead: that one
// tells whether there can be a key less than to, not the page's own last key.
func within(pages []*tree.Node, from, to []byte) []*tree.Node {
	var some []*tree.Node
	for i, n := range pages {
		reached := i == 0 || bytes.Compare(pages[i-1].Last, to) < 0
		if reached && bytes.Compare(n.Last, from) >= 0 {
			some = append(some, n)
		}
	}
	return some
}

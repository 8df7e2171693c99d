// Package tree: the tree of keys with values, made of pages.
package tree

import (
	"bytes"
	"slices"

	"cairn/api"
	"cairn/digest"
	"cairn/page"
)

// Node is a page in a tree. Trees share nodes, so none is written into once it
// is made.
type Node struct {
	Last   []byte // the page's last key
	Bytes  []byte
	Digest api.Digest
	Below  []*Node // the pages that its entries stand for; none on the level 0
}

// Known holds the nodes of all trees that it made. A page that several trees
// have lies there once.
type Known struct {
	nodes map[api.Digest][]*Node
}

// Tree gives the root of the tree of entries of the level 0, by rising keys.
func (k *Known) Tree(entries []page.Entry) *Node {
	nodes := k.lowest(entries)
	// This ends: on MaxLevel no entry is an end, so that there is one page.
	for level := 1; len(nodes) > 1; level++ {
		nodes = k.above(level, nodes)
	}
	return nodes[0]
}

// lowest gives the nodes of the level 0: one, if there are no entries.
func (k *Known) lowest(entries []page.Entry) []*Node {
	if len(entries) == 0 {
		return []*Node{k.node(page.Page{}, nil)}
	}
	var nodes []*Node
	for _, some := range parted(0, entries, entryKey) {
		nodes = append(nodes, k.node(page.Page{Entries: some}, nil))
	}
	return nodes
}

// above gives the nodes of a level, whose entries stand for the nodes below.
func (k *Known) above(level int, below []*Node) []*Node {
	var nodes []*Node
	for _, some := range parted(level, below, nodeKey) {
		p := page.Page{Level: level}
		for _, n := range some {
			p.Entries = append(p.Entries, page.Entry{Key: n.Last, Digest: n.Digest})
		}
		nodes = append(nodes, k.node(p, some))
	}
	return nodes
}

// node gives the node of a page: the one that is known, or a new one.
func (k *Known) node(p page.Page, below []*Node) *Node {
	b := p.Bytes()
	d := digest.Of(b)
	for _, n := range k.nodes[d] {
		// The digest alone does not tell: unlike pages may have one digest. Nor
		// do the bytes: above such pages stand pages of the same bytes.
		if bytes.Equal(n.Bytes, b) && slices.Equal(n.Below, below) {
			return n
		}
	}
	n := &Node{Last: lastKey(p.Entries), Bytes: b, Digest: d, Below: slices.Clone(below)}
	k.keep(n)
	return n
}

// keep makes a node known.
func (k *Known) keep(n *Node) {
	if k.nodes == nil {
		k.nodes = make(map[api.Digest][]*Node)
	}
	k.nodes[n.Digest] = append(k.nodes[n.Digest], n)
}

// parted parts what stands on a level: each part ends with an end, or with the
// last one.
func parted[T any](level int, list []T, key func(T) []byte) [][]T {
	var parts [][]T
	start := 0
	for i, t := range list {
		if i == len(list)-1 || isEnd(level, key(t)) {
			parts = append(parts, list[start:i+1])
			start = i + 1
		}
	}
	return parts
}

// isEnd tells whether an entry with this key ends its page on this level.
func isEnd(level int, key []byte) bool {
	if level >= api.MaxLevel {
		return false
	}
	d := digest.Of(append([]byte{byte(level)}, key...))
	return d[len(d)-1]%4 == 0
}

func entryKey(e page.Entry) []byte { return e.Key }

func nodeKey(n *Node) []byte { return n.Last }

func lastKey(entries []page.Entry) []byte {
	if len(entries) == 0 {
		return nil
	}
	return entries[len(entries)-1].Key
}

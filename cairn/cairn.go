// Package cairn: an index whose answers prove themselves: see DOC.md.
package cairn

import (
	"bytes"
	"slices"

	"cairn/api"
	"cairn/digest"
	"cairn/history"
	"cairn/page"
	"cairn/proofs"
	"cairn/tree"
)

// Store keeps keys and values. Its lists are never written into, but replaced
// by new ones, so that what is done to a store does not show in a copy of it.
type Store struct {
	entries []page.Entry // by rising keys
	known   tree.Known
	trees   []*tree.Node // the commits' root pages, in order
}

// Digest gives the digest of some bytes (P3).
func Digest(b []byte) api.Digest { return digest.Of(b) }

// New makes an empty store.
func New() *Store { return &Store{} }

// Put puts a value at a key (P4). A nil store has room for nothing.
func (s *Store) Put(key []byte, value []byte) api.Errno {
	if !page.IsKey(key) || !page.IsValue(value) {
		return api.ErrArg
	}
	if s == nil {
		return api.ErrFull
	}
	i, found := find(s.entries, key)
	if !found && len(s.entries) >= api.MaxEntries {
		return api.ErrFull
	}
	behind := s.entries[i:]
	if found {
		behind = behind[1:]
	}
	e := page.Entry{Key: bytes.Clone(key), Value: bytes.Clone(value)}
	s.entries = slices.Concat(s.entries[:i], []page.Entry{e}, behind)
	return api.OK
}

// Delete takes a key away (P4). A nil store has no key.
func (s *Store) Delete(key []byte) api.Errno {
	if !page.IsKey(key) {
		return api.ErrArg
	}
	if s == nil {
		return api.ErrNone
	}
	i, found := find(s.entries, key)
	if !found {
		return api.ErrNone
	}
	s.entries = slices.Concat(s.entries[:i], s.entries[i+1:])
	return api.OK
}

// Commit commits what is there (P4). A nil store has room for no commit.
func (s *Store) Commit() (api.Commit, api.Errno) {
	if s == nil || len(s.trees) >= api.MaxEpochs {
		return api.Commit{}, api.ErrFull
	}
	epoch := len(s.trees)
	root := s.known.Tree(s.entries)
	s.trees = slices.Concat(s.trees, []*tree.Node{root})
	return api.Commit{Epoch: epoch, Root: root.Digest, Head: s.head()}, api.OK
}

// find gives the place of a key among entries with rising keys, or the one where
// it would stand, and whether it is there.
func find(entries []page.Entry, key []byte) (int, bool) {
	return slices.BinarySearchFunc(entries, key, func(e page.Entry, key []byte) int {
		return bytes.Compare(e.Key, key)
	})
}

// head gives the log's head.
func (s *Store) head() api.Head {
	n := s.commits()
	return api.Head{Size: n, Sum: history.Sum(s.roots(n))}
}

// commits tells how many commits there were. A nil store has none.
func (s *Store) commits() int {
	if s == nil {
		return 0
	}
	return len(s.trees)
}

// roots gives the log's first n roots.
func (s *Store) roots(n int) []api.Digest {
	var roots []api.Digest
	for i := range n {
		roots = append(roots, s.trees[i].Digest)
	}
	return roots
}

// Prove proves what stood at a key (P5).
func (s *Store) Prove(epoch int, key []byte) ([]byte, api.Errno) {
	if !s.has(epoch) {
		return nil, api.ErrEpoch
	}
	if !page.IsKey(key) {
		return nil, api.ErrArg
	}
	return proofs.OfKey(s.trees[epoch], key), api.OK
}

// ProveRange proves what stood between two keys (P5).
func (s *Store) ProveRange(epoch int, from []byte, to []byte) ([]byte, api.Errno) {
	if !s.has(epoch) {
		return nil, api.ErrEpoch
	}
	if !isRange(from, to) {
		return nil, api.ErrArg
	}
	return proofs.OfRange(s.trees[epoch], from, to), api.OK
}

// has tells whether there is a commit of this number.
func (s *Store) has(epoch int) bool {
	return epoch >= 0 && epoch < s.commits()
}

// isRange tells whether there may be a range from one key to another.
func isRange(from, to []byte) bool {
	return page.IsKey(from) && page.IsKey(to) && bytes.Compare(from, to) < 0
}

// Included proves that a root is in the log (P7).
func (s *Store) Included(epoch int, size int) ([]api.Digest, api.Errno) {
	if size < 1 || size > s.commits() || epoch < 0 || epoch >= size {
		return nil, api.ErrEpoch
	}
	return history.Included(s.roots(size), epoch), api.OK
}

// Extended proves that one log is the beginning of another (P7).
func (s *Store) Extended(old int, size int) ([]api.Digest, api.Errno) {
	if size < 0 || size > s.commits() || old < 0 || old > size {
		return nil, api.ErrEpoch
	}
	return history.Extended(s.roots(size), old), api.OK
}

// Check checks a key's proof (P6).
func Check(root api.Digest, key []byte, proof []byte) (api.Answer, api.Errno) {
	if !page.IsKey(key) {
		return api.Answer{}, api.ErrArg
	}
	entries, ok := proofs.ReadKey(root, key, proof)
	if !ok {
		return api.Answer{}, api.ErrProof
	}
	// They are those of one page at most, so that their keys rise.
	i, found := find(entries, key)
	if !found {
		return api.Answer{}, api.OK
	}
	return api.Answer{Found: true, Value: bytes.Clone(entries[i].Value)}, api.OK
}

// CheckRange checks a range's proof (P6).
func CheckRange(root api.Digest, from []byte, to []byte, proof []byte) ([]api.Entry, api.Errno) {
	if !isRange(from, to) {
		return nil, api.ErrArg
	}
	entries, ok := proofs.ReadRange(root, from, to, proof)
	if !ok {
		return nil, api.ErrProof
	}
	// From one page to the next the keys need not rise: P6 does not ask it.
	var some []api.Entry
	for _, e := range entries {
		if bytes.Compare(e.Key, from) >= 0 && bytes.Compare(e.Key, to) < 0 {
			some = append(some, api.Entry{Key: bytes.Clone(e.Key), Value: bytes.Clone(e.Value)})
		}
	}
	return some, api.OK
}

// CheckIncluded checks a path that a root is in the log (P8).
func CheckIncluded(h api.Head, epoch int, root api.Digest, path []api.Digest) bool {
	return history.IsIncluded(h, epoch, root, path)
}

// CheckExtended checks a path that one log is the beginning of another (P8).
func CheckExtended(old api.Head, h api.Head, path []api.Digest) bool {
	return history.IsExtended(old, h, path)
}

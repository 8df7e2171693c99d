package proofs

import (
	"bytes"

	"cairn/api"
	"cairn/digest"
	"cairn/page"
)

// ReadKey reads the proof of a key, under the digest of its root page, as that
// of the range from the key to itself: see OfKey.
func ReadKey(root api.Digest, key, proof []byte) (entries []page.Entry, ok bool) {
	return ReadRange(root, key, key, proof)
}

// ReadRange reads the proof of a range, under the digest of its root page. It
// gives all entries of the pages of level 0, in order, and whether these bytes
// are the proof. The entries share the proof's memory.
func ReadRange(root api.Digest, from, to, proof []byte) (entries []page.Entry, ok bool) {
	defer func() {
		switch p := recover().(type) {
		case nil:
		case noProof:
			entries, ok = nil, false
		default:
			panic(p)
		}
	}()
	r := reader{proof}
	entries = r.entriesBelow(r.page(root), from, to)
	r.end()
	return entries, true
}

// noProof is what a reader panics with to give up.
type noProof struct{}

// must gives up unless this holds.
func must(holds bool) {
	if !holds {
		panic(noProof{})
	}
}

// reader takes bytes from the front of those that are left.
type reader struct {
	left []byte
}

// entriesBelow reads what is behind a page, and gives the entries of the level
// 0 of that page and of those behind it.
func (r *reader) entriesBelow(p page.Page, from, to []byte) []page.Entry {
	if p.Level == 0 {
		return p.Entries
	}
	var entries []page.Entry
	for _, e := range within(p.Entries, entryKey, from, to) {
		below := r.page(e.Digest)
		must(below.Level == p.Level-1)
		entries = append(entries, r.entriesBelow(below, from, to)...)
	}
	return entries
}

// page reads the page of a digest, with the number of its bytes ahead.
func (r *reader) page(d api.Digest) page.Page {
	n := r.take(2)
	b := r.take(int(n[0])<<8 + int(n[1]))
	must(digest.Of(b) == d)
	return pageOf(b)
}

// pageOf gives the page that these bytes are.
func pageOf(b []byte) page.Page {
	r := reader{b}
	p := page.Page{Level: r.number()}
	must(p.Level <= api.MaxLevel)
	n := r.number()
	must(n <= api.MaxEntries)
	must(n > 0 || p.Level == 0)
	var ahead []byte
	for range n {
		e := r.entry(p.Level)
		// No key is empty, so that the first one too is behind what is ahead.
		must(bytes.Compare(ahead, e.Key) < 0)
		p.Entries = append(p.Entries, e)
		ahead = e.Key
	}
	r.end()
	return p
}

// entry reads an entry of a page of this level.
func (r *reader) entry(level int) page.Entry {
	e := page.Entry{Key: r.counted()}
	must(page.IsKey(e.Key))
	if level == 0 {
		e.Value = r.counted()
		must(page.IsValue(e.Value))
	} else {
		e.Digest = api.Digest(r.take(len(e.Digest)))
	}
	return e
}

// counted reads a list with the number of its bytes ahead.
func (r *reader) counted() []byte { return r.take(r.number()) }

// number reads a number of one byte.
func (r *reader) number() int { return int(r.take(1)[0]) }

// take reads as many bytes.
func (r *reader) take(n int) []byte {
	must(n <= len(r.left))
	b := r.left[:n:n]
	r.left = r.left[n:]
	return b
}

// end gives up unless all is read.
func (r *reader) end() { must(len(r.left) == 0) }

func entryKey(e page.Entry) []byte { return e.Key }

package cairn_test

import (
	"testing"

	"cairn/api"
	"cairn/cairn"
)

// pageIn gives the page that these bytes are.
func pageIn(b string) (*modelPage, bool) {
	if len(b) < 2 || b[0] > 6 || b[1] > 60 || b[0] > 0 && b[1] == 0 {
		return nil, false
	}
	var l []modelEntry
	rest := b[2:]
	for len(l) < int(b[1]) {
		n := 1
		if rest == "" || rest[0] < 1 || rest[0] > 12 || len(rest) < 2+int(rest[0]) {
			return nil, false
		}
		n += int(rest[0])
		key := rest[1:n]
		if len(l) > 0 && l[len(l)-1].key >= key {
			return nil, false
		}
		with := 8
		if b[0] == 0 {
			with = 1 + int(rest[n])
		}
		if len(rest) < n+with || b[0] == 0 && with > 1+12 {
			return nil, false
		}
		l = append(l, modelEntry{key: key, with: rest[n : n+with]})
		rest = rest[n+with:]
	}
	return newPage(int(b[0]), l), rest == ""
}

// pagesIn gives the pages that stand one behind the other.
func pagesIn(proof string) ([]*modelPage, bool) {
	var l []*modelPage
	for proof != "" {
		if len(proof) < 2 {
			return nil, false
		}
		n := 2 + int(proof[0])*256 + int(proof[1])
		if len(proof) < n {
			return nil, false
		}
		p, ok := pageIn(proof[2:n])
		if !ok {
			return nil, false
		}
		l = append(l, p)
		proof = proof[n:]
	}
	return l, true
}

// treeIn gives the root page of a proof, its entries with their pages from
// anywhere in the proof. A page that is not there becomes one that can be in
// no proof.
func treeIn(root api.Digest, proof string) (*modelPage, bool) {
	l, ok := pagesIn(proof)
	if !ok || len(l) == 0 || modelDigest([]byte(l[0].bytes)) != root {
		return nil, false
	}
	type place struct {
		level  int
		digest string
	}
	known := map[place]*modelPage{}
	for _, p := range l {
		known[place{p.level(), standsFor("", p).with}] = p
	}
	for _, p := range l {
		for i, e := range p.entries {
			if p.level() > 0 {
				p.entries[i].page = known[place{p.level() - 1, e.with}]
			}
			if p.entries[i].page == nil {
				p.entries[i].page = &modelPage{bytes: "\x00"}
			}
		}
	}
	return l[0], true
}

// modelCheck holds the bytes against the proof made anew from their pages.
func modelCheck(root api.Digest, key, proof string) (found bool, value string, e api.Errno) {
	if !isKey([]byte(key)) {
		return false, "", api.ErrArg
	}
	p, ok := treeIn(root, proof)
	if !ok || proofOf(p.pagesOfKey(key)) != proof {
		return false, "", api.ErrProof
	}
	l := p.pagesOfKey(key)
	last := l[len(l)-1]
	for _, e := range last.entries {
		if last.level() == 0 && e.key == key {
			return true, e.with[1:], api.OK
		}
	}
	return false, "", api.OK
}

// modelCheckRange is modelCheck, of a range.
func modelCheckRange(root api.Digest, from, to, proof string) ([]api.Entry, api.Errno) {
	if !isKey([]byte(from)) || !isKey([]byte(to)) || from >= to {
		return nil, api.ErrArg
	}
	p, ok := treeIn(root, proof)
	if !ok || proofOf(p.pagesOfRange(from, to)) != proof {
		return nil, api.ErrProof
	}
	var l []api.Entry
	for _, q := range p.pagesOfRange(from, to) {
		for _, e := range q.entries {
			if q.level() == 0 && e.key >= from && e.key < to {
				l = append(l, entry(e.key, e.with[1:]))
			}
		}
	}
	return l, api.OK
}

// check holds Check against the model, and gives its error.
func check(t *testing.T, root api.Digest, key, proof string) api.Errno {
	t.Helper()
	a, e := cairn.Check(root, []byte(key), []byte(proof))
	found, value, want := modelCheck(root, key, proof)
	if e != want || a.Found != found || string(a.Value) != value {
		t.Errorf("P6: Check(%v, %q, %v) = %v, %d, want %v, %q, %d", root, key, []byte(proof), a, e, found, value, want)
	}
	return e
}

// checkRange holds CheckRange against the model, and gives its error.
func checkRange(t *testing.T, root api.Digest, from, to, proof string) api.Errno {
	t.Helper()
	l, e := cairn.CheckRange(root, []byte(from), []byte(to), []byte(proof))
	want, wantE := modelCheckRange(root, from, to, proof)
	if e != wantE || !sameEntries(l, want) {
		t.Errorf("P6: CheckRange(%v, %q, %q, %v) = %q, %d, want %q, %d", root, from, to, []byte(proof), l, e, want, wantE)
	}
	return e
}

package cairn_test

import (
	"bytes"
	"hash/fnv"
	"maps"
	"slices"
	"testing"

	"cairn/api"
	"cairn/cairn"
)

// model is a store reckoned anew from the document's words at each commit.
type model struct {
	values map[string]string
	then   []map[string]string // the values at each commit
	trees  []*modelPage
	roots  []api.Digest
}

func newModel() *model { return &model{values: map[string]string{}} }

func modelDigest(b []byte) (d api.Digest) {
	h := fnv.New64a()
	h.Write(b)
	n := h.Sum64()
	n ^= n >> 32
	n *= 11400714819323198485
	n ^= n >> 29
	for i := range d {
		d[i] = byte(n >> (56 - 8*i))
	}
	return d
}

// modelEntry is a key and, as bytes of a page, what goes with it; above the
// level 0 also the page that it stands for.
type modelEntry struct {
	key, with string
	page      *modelPage
}

type modelPage struct {
	bytes   string
	entries []modelEntry
}

func newPage(level int, l []modelEntry) *modelPage {
	b := string([]byte{byte(level), byte(len(l))})
	for _, e := range l {
		b += string([]byte{byte(len(e.key))}) + e.key + e.with
	}
	return &modelPage{b, l}
}

// standsFor gives the entry that stands for a page.
func standsFor(key string, p *modelPage) modelEntry {
	d := modelDigest([]byte(p.bytes))
	return modelEntry{key, string(d[:]), p}
}

func (p *modelPage) level() int { return int(p.bytes[0]) }

// counted gives the page's bytes with their number ahead.
func (p *modelPage) counted() string {
	n := len(p.bytes)
	return string([]byte{byte(n / 256), byte(n % 256)}) + p.bytes
}

// pagesOfKey gives the pages of a key's proof.
func (p *modelPage) pagesOfKey(key string) []*modelPage {
	if p.level() > 0 {
		for _, e := range p.entries {
			if e.key >= key {
				return append([]*modelPage{p}, e.page.pagesOfKey(key)...)
			}
		}
	}
	return []*modelPage{p}
}

// pagesOfRange gives the pages of a range's proof.
func (p *modelPage) pagesOfRange(from, to string) []*modelPage {
	l := []*modelPage{p}
	if p.level() == 0 {
		return l
	}
	for i, e := range p.entries {
		if e.key >= from && (i == 0 || p.entries[i-1].key < to) {
			l = append(l, e.page.pagesOfRange(from, to)...)
		}
	}
	return l
}

// proofOf gives pages as a proof.
func proofOf(l []*modelPage) string {
	b := ""
	for _, p := range l {
		b += p.counted()
	}
	return b
}

func ends(level int, key string) bool {
	d := modelDigest([]byte(string([]byte{byte(level)}) + key))
	return level < 6 && d[7]&3 == 0
}

// rootPage gives the root page of the tree whose entries on this level are l.
func rootPage(level int, l []modelEntry) *modelPage {
	var next []modelEntry
	from := 0
	for i := range l {
		if !ends(level, l[i].key) && i < len(l)-1 {
			continue
		}
		next = append(next, standsFor(l[i].key, newPage(level, l[from:i+1])))
		from = i + 1
	}
	if len(next) <= 1 {
		return newPage(level, l)
	}
	return rootPage(level+1, next)
}

func (m *model) rootPage() *modelPage {
	var l []modelEntry
	for _, k := range slices.Sorted(maps.Keys(m.values)) {
		v := m.values[k]
		l = append(l, modelEntry{key: k, with: string([]byte{byte(len(v))}) + v})
	}
	return rootPage(0, l)
}

func modelSum(roots []api.Digest) api.Digest {
	switch len(roots) {
	case 0:
		return modelDigest(nil)
	case 1:
		return modelDigest(append([]byte{0}, roots[0][:]...))
	}
	k := 1
	for k*2 < len(roots) {
		k *= 2
	}
	a, b := modelSum(roots[:k]), modelSum(roots[k:])
	return modelDigest(append(append([]byte{1}, a[:]...), b[:]...))
}

func (m *model) put(key, value []byte) api.Errno {
	if !isKey(key) || len(value) > 12 {
		return api.ErrArg
	}
	if _, ok := m.values[string(key)]; !ok && len(m.values) == 60 {
		return api.ErrFull
	}
	m.values[string(key)] = string(value)
	return api.OK
}

func (m *model) delete(key []byte) api.Errno {
	if !isKey(key) {
		return api.ErrArg
	}
	if _, ok := m.values[string(key)]; !ok {
		return api.ErrNone
	}
	delete(m.values, string(key))
	return api.OK
}

func (m *model) commit() (api.Commit, api.Errno) {
	if len(m.roots) == 40 {
		return api.Commit{}, api.ErrFull
	}
	p := m.rootPage()
	m.then = append(m.then, maps.Clone(m.values))
	m.trees = append(m.trees, p)
	m.roots = append(m.roots, modelDigest([]byte(p.bytes)))
	n := len(m.roots)
	return api.Commit{Epoch: n - 1, Root: m.roots[n-1], Head: api.Head{Size: n, Sum: modelSum(m.roots)}}, api.OK
}

func isKey(b []byte) bool { return len(b) >= 1 && len(b) <= 12 }

func (m *model) prove(epoch int, key []byte) (string, api.Errno) {
	if epoch < 0 || epoch >= len(m.trees) {
		return "", api.ErrEpoch
	}
	if !isKey(key) {
		return "", api.ErrArg
	}
	return proofOf(m.trees[epoch].pagesOfKey(string(key))), api.OK
}

func (m *model) proveRange(epoch int, from, to []byte) (string, api.Errno) {
	if epoch < 0 || epoch >= len(m.trees) {
		return "", api.ErrEpoch
	}
	if !isKey(from) || !isKey(to) || string(from) >= string(to) {
		return "", api.ErrArg
	}
	return proofOf(m.trees[epoch].pagesOfRange(string(from), string(to))), api.OK
}

// both is a store beside its model: what is done to one is done to the other.
type both struct {
	t *testing.T
	s *cairn.Store
	m *model
}

func newBoth(t *testing.T) both { return both{t, cairn.New(), newModel()} }

func (b both) copy() both {
	s := *b.s
	return both{b.t, &s, &model{maps.Clone(b.m.values), slices.Clone(b.m.then), slices.Clone(b.m.trees), slices.Clone(b.m.roots)}}
}

func (b both) put(key, value []byte) {
	b.t.Helper()
	if e, want := b.s.Put(key, value), b.m.put(key, value); e != want {
		b.t.Errorf("P4: Put(%q, %q) = %d, want %d", key, value, e, want)
	}
}

func (b both) delete(key []byte) {
	b.t.Helper()
	if e, want := b.s.Delete(key), b.m.delete(key); e != want {
		b.t.Errorf("P4: Delete(%q) = %d, want %d", key, e, want)
	}
}

func (b both) commit() {
	b.t.Helper()
	c, e := b.s.Commit()
	want, wantE := b.m.commit()
	if c != want || e != wantE {
		b.t.Errorf("P4: Commit = %v, %d, want %v, %d", c, e, want, wantE)
	}
}

func (b both) prove(epoch int, key []byte) {
	b.t.Helper()
	p, e := b.s.Prove(epoch, key)
	if want, wantE := b.m.prove(epoch, key); string(p) != want || e != wantE || e != api.OK && p != nil {
		b.t.Errorf("P5: Prove(%d, %q) = %v, %d, want %v, %d", epoch, key, p, e, []byte(want), wantE)
	}
	if e == api.OK {
		b.check(epoch, key, p)
	}
}

// check holds what a store's own proof tells against what stood there.
func (b both) check(epoch int, key, proof []byte) {
	b.t.Helper()
	a, e := cairn.Check(b.m.roots[epoch], key, proof)
	want, found := b.m.then[epoch][string(key)]
	if e != api.OK || a.Found != found || string(a.Value) != want {
		b.t.Errorf("P9: Check of %q in commit %d = %v, %d, want %v, %q", key, epoch, a, e, found, want)
	}
}

func (b both) proveRange(epoch int, from, to []byte) {
	b.t.Helper()
	p, e := b.s.ProveRange(epoch, from, to)
	if want, wantE := b.m.proveRange(epoch, from, to); string(p) != want || e != wantE || e != api.OK && p != nil {
		b.t.Errorf("P5: ProveRange(%d, %q, %q) = %v, %d, want %v, %d", epoch, from, to, p, e, []byte(want), wantE)
	}
	if e == api.OK {
		b.checkRange(epoch, from, to, p)
	}
}

// checkRange is check, of a range.
func (b both) checkRange(epoch int, from, to, proof []byte) {
	b.t.Helper()
	l, e := cairn.CheckRange(b.m.roots[epoch], from, to, proof)
	var want []api.Entry
	for _, k := range slices.Sorted(maps.Keys(b.m.then[epoch])) {
		if k >= string(from) && k < string(to) {
			want = append(want, entry(k, b.m.then[epoch][k]))
		}
	}
	if e != api.OK || !sameEntries(l, want) {
		b.t.Errorf("P9: CheckRange of %q %q in commit %d = %q, %d, want %q", from, to, epoch, l, e, want)
	}
}

func entry(key, value string) api.Entry { return api.Entry{Key: []byte(key), Value: []byte(value)} }

func sameEntries(l, want []api.Entry) bool {
	return slices.EqualFunc(l, want, func(a, b api.Entry) bool {
		return bytes.Equal(a.Key, b.Key) && bytes.Equal(a.Value, b.Value)
	})
}

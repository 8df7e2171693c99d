package cairn_test

import (
	"hash/fnv"
	"maps"
	"slices"
	"testing"

	"cairn/api"
	"cairn/cairn"
)

// model is a store reckoned anew from the document's words at each commit.
type model struct {
	values map[string]string
	roots  []api.Digest
}

func newModel() *model { return &model{values: map[string]string{}} }

func modelDigest(b []byte) (d api.Digest) {
	h := fnv.New64a()
	h.Write(b)
	n := h.Sum64()
	n ^= n >> 32
	n *= 11400714819323198485
	n ^= n >> 29
	for i := range d {
		d[i] = byte(n >> (56 - 8*i))
	}
	return d
}

// pair is an entry: a key and, as bytes of a page, what goes with it.
type pair struct{ key, with string }

func pageOf(level int, l []pair) string {
	b := string([]byte{byte(level), byte(len(l))})
	for _, p := range l {
		b += string([]byte{byte(len(p.key))}) + p.key + p.with
	}
	return b
}

func ends(level int, key string) bool {
	d := modelDigest([]byte(string([]byte{byte(level)}) + key))
	return level < 6 && d[7]&3 == 0
}

// rootPage gives the root page of the tree whose entries on this level are l.
func rootPage(level int, l []pair) string {
	var next []pair
	from := 0
	for i := range l {
		if !ends(level, l[i].key) && i < len(l)-1 {
			continue
		}
		d := modelDigest([]byte(pageOf(level, l[from:i+1])))
		next = append(next, pair{l[i].key, string(d[:])})
		from = i + 1
	}
	if len(next) <= 1 {
		return pageOf(level, l)
	}
	return rootPage(level+1, next)
}

func (m *model) rootPage() string {
	var l []pair
	for _, k := range slices.Sorted(maps.Keys(m.values)) {
		v := m.values[k]
		l = append(l, pair{k, string([]byte{byte(len(v))}) + v})
	}
	return rootPage(0, l)
}

func modelSum(roots []api.Digest) api.Digest {
	switch len(roots) {
	case 0:
		return modelDigest(nil)
	case 1:
		return modelDigest(append([]byte{0}, roots[0][:]...))
	}
	k := 1
	for k*2 < len(roots) {
		k *= 2
	}
	a, b := modelSum(roots[:k]), modelSum(roots[k:])
	return modelDigest(append(append([]byte{1}, a[:]...), b[:]...))
}

func (m *model) put(key, value []byte) api.Errno {
	if len(key) == 0 || len(key) > 12 || len(value) > 12 {
		return api.ErrArg
	}
	if _, ok := m.values[string(key)]; !ok && len(m.values) == 60 {
		return api.ErrFull
	}
	m.values[string(key)] = string(value)
	return api.OK
}

func (m *model) delete(key []byte) api.Errno {
	if len(key) == 0 || len(key) > 12 {
		return api.ErrArg
	}
	if _, ok := m.values[string(key)]; !ok {
		return api.ErrNone
	}
	delete(m.values, string(key))
	return api.OK
}

func (m *model) commit() (api.Commit, api.Errno) {
	if len(m.roots) == 40 {
		return api.Commit{}, api.ErrFull
	}
	m.roots = append(m.roots, modelDigest([]byte(m.rootPage())))
	n := len(m.roots)
	return api.Commit{Epoch: n - 1, Root: m.roots[n-1], Head: api.Head{Size: n, Sum: modelSum(m.roots)}}, api.OK
}

// both is a store beside its model: what is done to one is done to the other.
type both struct {
	t *testing.T
	s *cairn.Store
	m *model
}

func newBoth(t *testing.T) both { return both{t, cairn.New(), newModel()} }

func (b both) copy() both {
	s := *b.s
	return both{b.t, &s, &model{maps.Clone(b.m.values), slices.Clone(b.m.roots)}}
}

func (b both) put(key, value []byte) {
	b.t.Helper()
	if e, want := b.s.Put(key, value), b.m.put(key, value); e != want {
		b.t.Errorf("P4: Put(%q, %q) = %d, want %d", key, value, e, want)
	}
}

func (b both) delete(key []byte) {
	b.t.Helper()
	if e, want := b.s.Delete(key), b.m.delete(key); e != want {
		b.t.Errorf("P4: Delete(%q) = %d, want %d", key, e, want)
	}
}

func (b both) commit() {
	b.t.Helper()
	c, e := b.s.Commit()
	want, wantE := b.m.commit()
	if c != want || e != wantE {
		b.t.Errorf("P4: Commit = %v, %d, want %v, %d", c, e, want, wantE)
	}
}

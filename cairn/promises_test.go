package cairn_test

import (
	"bytes"
	"math"
	"slices"
	"testing"

	"cairn/api"
	"cairn/cairn"
)

var numbers = []int{math.MinInt, -1, 0, 1, 2, 39, 40, 41, 60, math.MaxInt}

func lists() [][]byte {
	return [][]byte{nil, {}, {0}, []byte("a"), bytes.Repeat([]byte{255}, 12), make([]byte, 13), make([]byte, 70000)}
}

func stores() []*cairn.Store {
	filled := cairn.New()
	for i := range 60 {
		filled.Put(key(i), key(i))
	}
	full := *filled
	for range 40 {
		full.Commit()
	}
	return []*cairn.Store{nil, {}, cairn.New(), filled, &full}
}

// TestNoPanic: P1, of every call at all kinds of numbers and lists.
func TestNoPanic(t *testing.T) {
	for _, s := range stores() {
		for _, a := range lists() {
			for _, b := range lists() {
				s.Put(a, b)
				s.Delete(b)
				for _, n := range numbers {
					s.Prove(n, a)
					s.ProveRange(n, a, b)
				}
				cairn.Check(api.Digest{}, a, b)
				cairn.CheckRange(api.Digest{}, a, b, a)
			}
			cairn.Digest(a)
		}
		for _, n := range numbers {
			for _, m := range numbers {
				s.Included(n, m)
				s.Extended(n, m)
				for _, path := range [][]api.Digest{nil, {}, {{1}}, make([]api.Digest, 1000)} {
					cairn.CheckIncluded(api.Head{Size: n}, m, api.Digest{}, path)
					cairn.CheckExtended(api.Head{Size: n}, api.Head{Size: m}, path)
				}
			}
		}
		s.Commit()
	}
}

func TestNilStore(t *testing.T) {
	var s *cairn.Store
	if e := s.Put([]byte("a"), nil); e != api.ErrFull {
		t.Errorf("P1: Put to no store = %d", e)
	}
	if e := s.Put(nil, nil); e != api.ErrArg {
		t.Errorf("P1: Put of no key to no store = %d", e)
	}
	if e := s.Delete([]byte("a")); e != api.ErrNone {
		t.Errorf("P1: Delete from no store = %d", e)
	}
	if c, e := s.Commit(); e != api.ErrFull || c != (api.Commit{}) {
		t.Errorf("P1: Commit of no store = %v, %d", c, e)
	}
}

func TestZeroStoreIsNew(t *testing.T) {
	zero, made := new(cairn.Store), cairn.New()
	for _, s := range []*cairn.Store{zero, made} {
		if e := s.Put([]byte("a"), []byte("1")); e != api.OK {
			t.Errorf("P1: Put = %d", e)
		}
	}
	a, e := zero.Commit()
	if b, f := made.Commit(); a != b || e != f {
		t.Errorf("P1: Commit = %v, %d and %v, %d", a, e, b, f)
	}
}

// TestErrorsChangeNothing: P1, of the calls that change a store.
func TestErrorsChangeNothing(t *testing.T) {
	s := cairn.New()
	s.Put([]byte("a"), []byte("1"))
	before := root(s)
	for _, c := range []struct {
		what    string
		e, want api.Errno
	}{
		{"Put of an empty key", s.Put([]byte{}, []byte("1")), api.ErrArg},
		{"Put of no key", s.Put(nil, []byte("1")), api.ErrArg},
		{"Put of a long key", s.Put(make([]byte, 13), []byte("1")), api.ErrArg},
		{"Put of a long value", s.Put([]byte("a"), make([]byte, 13)), api.ErrArg},
		{"Put of a long value at a new key", s.Put([]byte("b"), make([]byte, 13)), api.ErrArg},
		{"Delete of an empty key", s.Delete([]byte{}), api.ErrArg},
		{"Delete of no key", s.Delete(nil), api.ErrArg},
		{"Delete of a long key", s.Delete(make([]byte, 13)), api.ErrArg},
		{"Delete of another key", s.Delete([]byte("z")), api.ErrNone},
		{"Delete of what begins with the key", s.Delete([]byte("aa")), api.ErrNone},
	} {
		if c.e != c.want {
			t.Errorf("P4: %s = %d, want %d", c.what, c.e, c.want)
		}
	}
	if root(s) != before {
		t.Error("P1: calls that failed changed the store")
	}
	if c, e := s.Commit(); e != api.OK || c.Epoch != 0 {
		t.Errorf("P1: calls that failed made a commit: %v, %d", c, e)
	}
}

func TestNilIsEmpty(t *testing.T) {
	a, b := cairn.New(), cairn.New()
	if e, f := a.Put([]byte("k"), nil), b.Put([]byte("k"), []byte{}); e != api.OK || f != api.OK {
		t.Errorf("P1: Put = %d and %d", e, f)
	}
	if root(a) != root(b) {
		t.Error("P1: a nil and an empty value have two roots")
	}
	if cairn.Digest(nil) != cairn.Digest([]byte{}) {
		t.Error("P1: nil and empty have two digests")
	}
	for _, none := range [][]byte{nil, {}} {
		_, e := cairn.Check(cairn.Digest(none), []byte("k"), none)
		_, f := cairn.CheckRange(cairn.Digest(none), []byte("k"), []byte("l"), none)
		_, g := cairn.CheckRange(cairn.Digest(none), []byte("k"), none, none)
		if e != api.ErrProof || f != api.ErrProof || g != api.ErrArg {
			t.Errorf("P1: checks with %#v = %d, %d and %d", none, e, f, g)
		}
	}
}

// TestDigestHangsOnBytesAlone: P1, whatever stores do in between.
func TestDigestHangsOnBytesAlone(t *testing.T) {
	b := []byte{0, 1, 1, 97, 1, 49}
	before := cairn.Digest(b)
	for _, s := range stores() {
		s.Commit()
		if cairn.Digest(b) != before {
			t.Error("P1: the digest of some bytes changed")
		}
	}
}

// roomy gives a list with filled spare room behind it, and the whole.
func roomy(text string) (list, whole []byte) {
	whole = append([]byte(text), "spare room"...)
	return whole[:len(text)], whole
}

// TestListsAreNotWritten: P2, of lists handed in and of their spare room.
func TestListsAreNotWritten(t *testing.T) {
	s := cairn.New()
	k, wholeK := roomy("key")
	v, wholeV := roomy("value")
	beforeK, beforeV := slices.Clone(wholeK), slices.Clone(wholeV)
	s.Put(k, v)
	s.Put(v, k)
	s.Put(k, k)
	s.Commit()
	s.Delete(k)
	s.Delete(k)
	s.Commit()
	cairn.Digest(k)
	if !bytes.Equal(wholeK, beforeK) || !bytes.Equal(wholeV, beforeV) {
		t.Errorf("P2: lists handed in became %q and %q", wholeK, wholeV)
	}
}

// TestListsAreNotKept: P2, one key list and one value list serve all calls.
func TestListsAreNotKept(t *testing.T) {
	b := newBoth(t)
	k, v := make([]byte, 2), make([]byte, 3)
	for i := range 60 {
		copy(k, key(i))
		v[0], v[2] = byte(i), byte(i)
		b.put(k, v)
		if i%8 == 0 {
			b.commit()
		}
	}
	copy(k, key(7))
	b.delete(k)
	copy(k, "zz")
	clear(v)
	b.commit()
}

// TestStoresDoNotChangeOneAnother: P2, of two made apart, called in turn.
func TestStoresDoNotChangeOneAnother(t *testing.T) {
	a, b := newBoth(t), newBoth(t)
	for i := range 40 {
		a.put(key(i), key(i))
		b.put(key(i), key(39-i))
		a.commit()
		if i%3 == 0 {
			b.delete(key(i))
			b.commit()
		}
	}
	a.commit()
	b.commit()
}

// TestCopiesDoNotChangeOneAnother: P2, of a store and a copy of it.
func TestCopiesDoNotChangeOneAnother(t *testing.T) {
	for start := range 8 {
		a := newBoth(t)
		fill(a, 20)
		for range start {
			a.commit()
		}
		b := a.copy()
		for i := range 16 {
			b.delete(key(i))
			a.commit()
			a.put(key(i), []byte("a"))
			b.put(key(40-i), []byte("b"))
			b.commit()
			a.delete(key(19 - i))
		}
	}
}

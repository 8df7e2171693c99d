package cairn_test

import (
	"math"
	"math/rand/v2"
	"slices"
	"testing"

	"cairn/api"
	"cairn/cairn"
)

// commits commits so often, each time with another root.
func (b both) commits(n int) {
	b.t.Helper()
	for range n {
		b.put([]byte("k"), []byte{byte(len(b.m.roots))})
		b.commit()
	}
}

// logOf gives a store with so many commits, each with another root.
func logOf(t *testing.T, n int) both {
	t.Helper()
	b := newBoth(t)
	b.commits(n)
	return b
}

func TestPathExamples(t *testing.T) {
	s := cairn.New()
	one, _ := s.Commit()
	s.Put([]byte("a"), []byte("1"))
	other, _ := s.Commit()
	if l, e := s.Extended(2, 2); e != api.OK || len(l) != 0 {
		t.Errorf("P7: Extended(2, 2) = %v, %d", l, e)
	}
	sum := func(root api.Digest) api.Digest { return cairn.Digest(append([]byte{0}, root[:]...)) }
	if l, e := s.Included(0, 2); e != api.OK || !slices.Equal(l, []api.Digest{sum(other.Root)}) {
		t.Errorf("P7: Included(0, 2) = %v, %d", l, e)
	}
	if l, e := s.Included(1, 2); e != api.OK || !slices.Equal(l, []api.Digest{sum(one.Root)}) {
		t.Errorf("P7: Included(1, 2) = %v, %d", l, e)
	}
	if l, e := s.Extended(1, 2); e != api.OK || !slices.Equal(l, []api.Digest{sum(other.Root)}) {
		t.Errorf("P7: Extended(1, 2) = %v, %d", l, e)
	}
}

// TestPathsOfAllLogs: at logs of every size all paths, those of earlier sizes
// too, with the heads that the commits gave.
func TestPathsOfAllLogs(t *testing.T) {
	b := newBoth(t)
	heads := []api.Head{{Sum: cairn.Digest(nil)}}
	var roots []api.Digest
	b.allPaths(0)
	for n := 1; n <= api.MaxEpochs; n++ {
		b.put(key(n), key(n))
		b.m.commit()
		c, e := b.s.Commit()
		if e != api.OK {
			t.Fatalf("P4: Commit = %d", e)
		}
		heads, roots = append(heads, c.Head), append(roots, c.Root)
		b.allPaths(n)
		for e := range n {
			if l, _ := b.s.Included(e, n); !cairn.CheckIncluded(heads[n], e, roots[e], l) {
				t.Errorf("P9: the path of %d in %d is refused", e, n)
			}
		}
		for m := range n + 1 {
			if l, _ := b.s.Extended(m, n); !cairn.CheckExtended(heads[m], heads[n], l) {
				t.Errorf("P9: the path from %d to %d is refused", m, n)
			}
		}
	}
	b.commit()
	b.allPaths(api.MaxEpochs)
}

// edges gives numbers at the edges of a log of n, and far outside.
func edges(n int) []int {
	l := []int{math.MinInt, math.MinInt + 1, math.MinInt32, -1 << 32, -41, -40, -2, -1, 0, 1, 2,
		39, 40, 41, 256, math.MaxInt32, 1 << 32, 1<<32 + 1, 1 << 62, math.MaxInt - 1, math.MaxInt}
	for i := range 3 {
		l = append(l, n-1+i)
	}
	return l
}

func TestNoSuchPaths(t *testing.T) {
	b := newBoth(t)
	for n := range api.MaxEpochs + 1 {
		for _, x := range edges(n) {
			for _, y := range edges(n) {
				b.included(x, y)
				b.extended(x, y)
			}
			b.included(x, n/2)
			b.extended(x, n/2)
		}
		b.commits(1)
	}
}

// TestEdgesOfPaths: the same bounds as TestNoSuchPaths, written out.
func TestEdgesOfPaths(t *testing.T) {
	b := logOf(t, 7)
	for _, c := range []struct {
		x, size            int
		included, extended api.Errno
	}{
		{0, 0, api.ErrEpoch, api.OK}, {0, 1, api.OK, api.OK}, {1, 1, api.ErrEpoch, api.OK}, {2, 1, api.ErrEpoch, api.ErrEpoch},
		{0, 7, api.OK, api.OK}, {6, 7, api.OK, api.OK}, {7, 7, api.ErrEpoch, api.OK}, {8, 7, api.ErrEpoch, api.ErrEpoch},
		{0, 8, api.ErrEpoch, api.ErrEpoch}, {7, 8, api.ErrEpoch, api.ErrEpoch}, {8, 8, api.ErrEpoch, api.ErrEpoch},
		{-1, 7, api.ErrEpoch, api.ErrEpoch}, {-1, 0, api.ErrEpoch, api.ErrEpoch}, {0, -1, api.ErrEpoch, api.ErrEpoch},
		{-1, -1, api.ErrEpoch, api.ErrEpoch}, {-2, -1, api.ErrEpoch, api.ErrEpoch}, {1, 0, api.ErrEpoch, api.ErrEpoch},
		{math.MinInt, math.MinInt, api.ErrEpoch, api.ErrEpoch}, {math.MaxInt, math.MaxInt, api.ErrEpoch, api.ErrEpoch},
		{math.MinInt, 7, api.ErrEpoch, api.ErrEpoch}, {math.MaxInt, 7, api.ErrEpoch, api.ErrEpoch},
		{0, math.MinInt, api.ErrEpoch, api.ErrEpoch}, {0, math.MaxInt, api.ErrEpoch, api.ErrEpoch},
	} {
		if l, e := b.s.Included(c.x, c.size); e != c.included || e != api.OK && l != nil {
			t.Errorf("P7: Included(%d, %d) = %v, %d, want %d", c.x, c.size, l, e, c.included)
		}
		if l, e := b.s.Extended(c.x, c.size); e != c.extended || e != api.OK && l != nil {
			t.Errorf("P7: Extended(%d, %d) = %v, %d, want %d", c.x, c.size, l, e, c.extended)
		}
	}
}

// TestPathsOfNilStore: it has the log of none, as a new one has.
func TestPathsOfNilStore(t *testing.T) {
	for _, s := range []*cairn.Store{nil, {}, cairn.New()} {
		b := both{t, s, newModel()}
		for _, x := range edges(0) {
			for _, y := range edges(0) {
				b.included(x, y)
				b.extended(x, y)
			}
		}
	}
}

// TestPathsOfEqualRoots: each has a place of its own.
func TestPathsOfEqualRoots(t *testing.T) {
	b := newBoth(t)
	for i := range api.MaxEpochs {
		if i%7 == 6 {
			b.put(key(i), nil)
		}
		b.commit()
	}
	b.allPaths(api.MaxEpochs)
}

// TestPathsStay: those that were given, and those asked for again, whatever is
// put, deleted or committed later.
func TestPathsStay(t *testing.T) {
	b := logOf(t, 0)
	type given struct{ included, extended, then, thenExtended []api.Digest }
	all := map[[2]int]given{}
	for n := 1; n <= api.MaxEpochs; n++ {
		b.commits(1)
		b.put(key(n), key(n))
		for e := range n {
			x, _ := b.s.Included(e, n)
			y, _ := b.s.Extended(e, n)
			all[[2]int{e, n}] = given{x, y, slices.Clone(x), slices.Clone(y)}
		}
		b.delete(key(n / 2))
	}
	for at, g := range all {
		x, e := b.s.Included(at[0], at[1])
		y, f := b.s.Extended(at[0], at[1])
		if e != api.OK || f != api.OK || !slices.Equal(x, g.then) || !slices.Equal(y, g.thenExtended) {
			t.Errorf("P7: the paths of %v became %v and %v", at, x, y)
		}
		if !slices.Equal(g.included, g.then) || !slices.Equal(g.extended, g.thenExtended) {
			t.Errorf("P2: paths of %v that were given became %v and %v", at, g.included, g.extended)
		}
	}
}

// TestPathsAreTheCallers: P2, of paths and of their spare room.
func TestPathsAreTheCallers(t *testing.T) {
	b := newBoth(t)
	for n := 1; n <= api.MaxEpochs; n++ {
		b.commits(1)
		var out [][]api.Digest
		for i := range n {
			for range 2 {
				x, _ := b.s.Included(i, n)
				y, _ := b.s.Extended(i, n)
				out = append(out, x, y)
			}
		}
		for i, l := range out {
			l = l[:cap(l)]
			for j := range l {
				l[j] = api.Digest{byte(i), byte(i >> 8), byte(j)}
			}
		}
		for i, l := range out {
			for j, d := range l[:cap(l)] {
				if d != (api.Digest{byte(i), byte(i >> 8), byte(j)}) {
					t.Errorf("P2: a path of %d shares memory", n)
				}
			}
		}
		for i := range n {
			b.included(i, n)
			b.extended(i, n)
		}
	}
	b.allPaths(api.MaxEpochs)
}

// TestPathsChangeNothing: P1, of the store and of its next commit.
func TestPathsChangeNothing(t *testing.T) {
	b := logOf(t, 5)
	before := root(b.s)
	for _, x := range edges(5) {
		for _, y := range edges(5) {
			b.included(x, y)
			b.extended(x, y)
		}
	}
	if root(b.s) != before {
		t.Error("P1: paths changed the store")
	}
	b.commit()
	b.prove(5, []byte("k"))
	b.allPaths(6)
}

// TestCopiesHaveTheirOwnPaths: P2, of a store and a copy of it, which go apart,
// and of another store.
func TestCopiesHaveTheirOwnPaths(t *testing.T) {
	for start := range 9 {
		a := logOf(t, start)
		b := a.copy()
		c := logOf(t, 3)
		for i := range 9 {
			a.put([]byte("a"), key(i))
			b.put([]byte("b"), key(i))
			a.commit()
			b.commit()
			c.commit()
			b.commit()
		}
		a.allPaths(start + 9)
		b.allPaths(start + 18)
		c.allPaths(12)
	}
}

func TestManyPaths(t *testing.T) {
	for seed := range uint64(40) {
		r := rand.New(rand.NewPCG(seed, 8))
		b := newBoth(t)
		for range 300 {
			switch n := r.IntN(20); {
			case n < 4:
				b.put(someBytes(r, 4), someBytes(r, 13))
			case n < 6:
				b.delete(someBytes(r, 4))
			case n < 10:
				b.commit()
			case n < 15:
				b.included(r.IntN(len(b.m.roots)+3)-1, r.IntN(len(b.m.roots)+3)-1)
			default:
				b.extended(r.IntN(len(b.m.roots)+3)-1, r.IntN(len(b.m.roots)+3)-1)
			}
		}
	}
}

package cairn_test

import (
	"bytes"
	"math"
	"math/rand/v2"
	"slices"
	"testing"

	"cairn/api"
	"cairn/cairn"
)

func TestProofExamples(t *testing.T) {
	s := cairn.New()
	s.Put([]byte("a"), []byte("1"))
	s.Commit()
	want := []byte{0, 6, 0, 1, 1, 97, 1, 49}
	for _, k := range []string{"a", "b", "A"} {
		if p, e := s.Prove(0, []byte(k)); e != api.OK || !bytes.Equal(p, want) {
			t.Errorf("P5: Prove(0, %s) = %v, %d, want %v", k, p, e, want)
		}
	}
	if p, e := s.ProveRange(0, []byte("b"), []byte("a")); e != api.ErrArg || p != nil {
		t.Errorf("P5: ProveRange(0, b, a) = %v, %d", p, e)
	}
	if p, e := s.ProveRange(0, []byte("a"), []byte("b")); e != api.OK || !bytes.Equal(p, want) {
		t.Errorf("P5: ProveRange(0, a, b) = %v, %d, want %v", p, e, want)
	}
}

func TestProofsOfNoEntries(t *testing.T) {
	s := cairn.New()
	s.Commit()
	s.Put([]byte("a"), nil)
	s.Delete([]byte("a"))
	s.Commit()
	want := []byte{0, 2, 0, 0}
	for epoch := range 2 {
		if p, e := s.Prove(epoch, []byte("a")); e != api.OK || !bytes.Equal(p, want) {
			t.Errorf("P5: Prove(%d, a) = %v, %d, want %v", epoch, p, e, want)
		}
		if p, e := s.ProveRange(epoch, []byte("a"), []byte("b")); e != api.OK || !bytes.Equal(p, want) {
			t.Errorf("P5: ProveRange(%d, a, b) = %v, %d, want %v", epoch, p, e, want)
		}
	}
}

// refused fails unless both calls, or Prove alone if to is nil, answer this
// error and nothing else.
func refused(t *testing.T, s *cairn.Store, epoch int, from, to []byte, want api.Errno) {
	t.Helper()
	if p, e := s.Prove(epoch, from); to == nil && (e != want || p != nil) {
		t.Errorf("P5: Prove(%d, %q) = %v, %d, want %d", epoch, from, p, e, want)
	}
	if p, e := s.ProveRange(epoch, from, to); to != nil && (e != want || p != nil) {
		t.Errorf("P5: ProveRange(%d, %q, %q) = %v, %d, want %d", epoch, from, to, p, e, want)
	}
}

func TestNoSuchEpoch(t *testing.T) {
	s := cairn.New()
	for commits := range 42 {
		for _, epoch := range []int{math.MinInt, math.MinInt32, -1 << 32, -40, -2, -1, min(commits, 40), min(commits, 40) + 1, 256, 1 << 32, math.MaxInt32, math.MaxInt} {
			for _, k := range [][]byte{nil, {}, []byte("a"), make([]byte, 12), make([]byte, 13)} {
				refused(t, s, epoch, k, nil, api.ErrEpoch)
				refused(t, s, epoch, k, []byte("b"), api.ErrEpoch)
				refused(t, s, epoch, []byte("b"), append([]byte{}, k...), api.ErrEpoch)
			}
		}
		s.Commit()
	}
	var none *cairn.Store
	refused(t, none, 0, []byte("a"), nil, api.ErrEpoch)
	refused(t, none, 0, nil, nil, api.ErrEpoch)
	refused(t, none, 0, []byte("a"), []byte("b"), api.ErrEpoch)
	refused(t, none, 0, []byte("b"), []byte("a"), api.ErrEpoch)
}

func TestWhatMayNotBeProved(t *testing.T) {
	for _, s := range stores() {
		if s == nil {
			continue
		}
		s.Commit()
		for _, n := range []int{0, 13, 14, 255, 256, 257, 268, 70000} {
			k := bytes.Repeat([]byte{'x'}, n)
			refused(t, s, 0, k, nil, api.ErrArg)
			refused(t, s, 0, k, []byte("y"), api.ErrArg)
			refused(t, s, 0, []byte("a"), k, api.ErrArg)
		}
		for _, c := range [][2]string{
			{"a", "a"}, {"b", "a"}, {"aa", "a"}, {"b", "ab"}, {"a\x00", "a"}, {"\xff", "\x00"}, {"\x80", "\x7f"},
			{"aaaaaaaaaaaa", "aaaaaaaaaaaa"}, {"aaaaaaaaaaab", "aaaaaaaaaaaa"}, {"", ""},
		} {
			refused(t, s, 0, []byte(c[0]), []byte(c[1]), api.ErrArg)
		}
		if p, e := s.ProveRange(0, nil, nil); e != api.ErrArg || p != nil {
			t.Errorf("P5: ProveRange(0, nil, nil) = %v, %d", p, e)
		}
	}
}

func TestProofsOfKeysOfAllLengths(t *testing.T) {
	b := newBoth(t)
	fill(b, 60)
	b.commit()
	for n := range 15 {
		for _, x := range []byte{0, '0', '3', '5', 255} {
			k := bytes.Repeat([]byte{x}, n)
			b.prove(0, k)
			b.proveRange(0, k, []byte("45"))
			b.proveRange(0, []byte("11"), k)
			b.proveRange(0, k, append(k, 0))
			b.proveRange(0, k, k)
		}
	}
}

// around gives keys at, just behind and ahead of all keys of a store.
func around(m *model) [][]byte {
	l := [][]byte{{0}, bytes.Repeat([]byte{255}, 12)}
	for k := range m.values {
		l = append(l, []byte(k), []byte(k[:1]), []byte(k+"\x00"))
	}
	slices.SortFunc(l, bytes.Compare)
	return slices.CompactFunc(l, bytes.Equal)
}

// proveAll proves all keys, and ranges between them.
func proveAll(b both, epoch int, keys [][]byte) {
	b.t.Helper()
	for i, k := range keys {
		b.prove(epoch, k)
		for j := i; j < len(keys); j += 1 + (j-i)*(j-i)/9 {
			b.proveRange(epoch, k, keys[j])
		}
	}
}

func TestProofsInTreesOfAllSizes(t *testing.T) {
	levels := map[int]int{}
	for n := range 61 {
		b := newBoth(t)
		for i := range n {
			b.put([]byte{byte(60 + i*14%75), byte(48 + i)}, key(i))
		}
		b.commit()
		levels[b.m.trees[0].level()]++
		proveAll(b, 0, around(b.m))
	}
	if len(levels) < 6 {
		t.Errorf("P5: the trees tried are of these levels: %v", levels)
	}
}

func TestProofsInTreesOfAllLevels(t *testing.T) {
	for level, k := range []string{"a", "h", "af", "y", "afp", "yf", "acwi", "aqbr"} {
		b := newBoth(t)
		b.put([]byte(k), []byte("1"))
		b.put([]byte("zzzzz"), []byte("2"))
		b.commit()
		if got := b.m.trees[0].level(); got != min(level, 6) {
			t.Errorf("P5: the root page of %s is of level %d", k, got)
		}
		keys := around(b.m)
		for i := range keys {
			b.prove(0, keys[i])
			for j := range keys {
				b.proveRange(0, keys[i], keys[j])
			}
		}
	}
}

// TestGreatestPage: the number of a page's bytes takes two bytes.
func TestGreatestPage(t *testing.T) {
	s := cairn.New()
	k := []byte("0123456789..")
	var pages []byte
	for n := 0; n < api.MaxEntries; k[11]++ {
		if k[11] == 255 {
			k[10]++
			k[11] = '.'
		}
		if !ends(0, string(k)) {
			s.Put(k, k)
			pages = append(append(append(append(pages, 12), k...), 12), k...)
			n++
		}
	}
	s.Commit()
	want := append([]byte{6, 26, 0, 60}, pages...)
	if p, e := s.Prove(0, k); e != api.OK || !bytes.Equal(p, want) {
		t.Errorf("P5: Prove = %v, %d, want %v", p, e, want)
	}
	if p, e := s.ProveRange(0, []byte("0"), k); e != api.OK || !bytes.Equal(p, want) {
		t.Errorf("P5: ProveRange = %v, %d, want %v", p, e, want)
	}
}

// TestPageOf256: the first length that the lower byte alone does not tell.
func TestPageOf256(t *testing.T) {
	for _, last := range []int{0, 1, 2, 3} {
		b := newBoth(t)
		n := 0
		for k := byte('a'); n < 10; k++ {
			if !ends(0, string([]byte{k, k, k, k, k, k, k, k, k, k, k, k})) {
				b.put(bytes.Repeat([]byte{k}, 12), make([]byte, 11))
				n++
			}
		}
		b.put([]byte{0}, make([]byte, last))
		b.commit()
		b.prove(0, []byte("b"))
		if got := len(b.m.trees[0].bytes); b.m.trees[0].level() != 0 || got != 255+last {
			t.Errorf("P5: the page has %d bytes, want %d", got, 255+last)
		}
	}
}

// TestProofsStay: those of a commit, whatever is put, deleted or committed
// later.
func TestProofsStay(t *testing.T) {
	b := newBoth(t)
	fill(b, 20)
	for i := range api.MaxEpochs {
		switch i % 4 {
		case 0:
			b.put(key(i+20), key(i))
		case 1:
			b.delete(key(i / 2))
		case 2:
			b.put(key(i), []byte("new"))
		}
		b.prove(i, key(0))
		b.commit()
		b.put(key(i), []byte("later"))
		b.delete(key(i + 1))
		for epoch := range i + 1 {
			b.prove(epoch, key(i))
			b.proveRange(epoch, key(i), key(60))
		}
	}
	keys := around(b.m)
	for epoch := range api.MaxEpochs {
		proveAll(b, epoch, keys)
	}
	b.commit()
	proveAll(b, api.MaxEpochs-1, keys)
	b.prove(api.MaxEpochs, key(0))
}

// TestProofsOfUnlikePages: two pages of one digest, alone, and below pages of
// the same bytes. `h` and `j` end their pages on the level 0.
func TestProofsOfUnlikePages(t *testing.T) {
	one := []byte{96, 231, 30, 39, 67, 117, 173, 226, 247, 56, 25, 170}
	other := []byte{160, 27, 213, 17, 81, 176, 142, 95, 168, 142, 136, 130}
	for _, beside := range [][]string{nil, {"z"}, {"i", "j", "z"}, {"y", "z"}, {"yf", "zzzzz"}} {
		b := newBoth(t)
		for _, k := range beside {
			b.put([]byte(k), nil)
		}
		for _, v := range [][]byte{one, other, other, one, nil, other} {
			b.put([]byte("h"), v)
			b.commit()
		}
		if b.m.roots[0] != b.m.roots[1] || b.m.roots[0] == b.m.roots[4] {
			t.Errorf("P5: the roots are %v", b.m.roots)
		}
		keys := around(b.m)
		for epoch := range b.m.roots {
			proveAll(b, epoch, keys)
		}
	}
}

// TestProvingChangesNothing: P1, of the store and of what it proves.
func TestProvingChangesNothing(t *testing.T) {
	b := newBoth(t)
	fill(b, 30)
	b.commit()
	before := root(b.s)
	for _, epoch := range numbers {
		for _, k := range lists() {
			b.prove(epoch, k)
			for _, to := range lists() {
				b.proveRange(epoch, k, to)
			}
		}
	}
	if root(b.s) != before {
		t.Error("P1: proving changed the store")
	}
	b.commit()
	b.prove(1, key(7))
	b.proveRange(0, key(7), key(20))
}

// TestProofsAreTheCallers: P2, of proofs and of their spare room.
func TestProofsAreTheCallers(t *testing.T) {
	b := newBoth(t)
	fill(b, 60)
	b.commit()
	b.commit()
	for epoch := range 2 {
		for i := range 60 {
			one, _ := b.s.Prove(epoch, key(i))
			other, _ := b.s.ProveRange(epoch, key(i), key(60))
			for _, p := range [][]byte{one, other} {
				again := slices.Clone(p)
				clear(p[:cap(p)])
				b.prove(epoch, key(i))
				b.proveRange(epoch, key(i), key(60))
				copy(p, again)
			}
			clear(one[:cap(one)])
			if want, _ := b.m.proveRange(epoch, key(i), key(60)); string(other) != want {
				t.Errorf("P2: two proofs share memory at %d", i)
			}
		}
	}
	b.commit()
	proveAll(b, 2, around(b.m))
}

// TestKeysProvedAreNotWritten: P2, of lists handed in and of their spare room.
func TestKeysProvedAreNotWritten(t *testing.T) {
	b := newBoth(t)
	fill(b, 60)
	b.commit()
	from, wholeFrom := roomy("17")
	to, wholeTo := roomy("42")
	beforeFrom, beforeTo := slices.Clone(wholeFrom), slices.Clone(wholeTo)
	b.prove(0, from)
	b.proveRange(0, from, to)
	b.proveRange(0, to, from)
	b.proveRange(0, from, from)
	if !bytes.Equal(wholeFrom, beforeFrom) || !bytes.Equal(wholeTo, beforeTo) {
		t.Errorf("P2: lists handed in became %q and %q", wholeFrom, wholeTo)
	}
	p, _ := b.s.ProveRange(0, from, to)
	clear(wholeFrom)
	clear(wholeTo)
	if want, _ := b.m.proveRange(0, []byte("17"), []byte("42")); string(p) != want {
		t.Error("P2: a proof changed with the list that was handed in")
	}
}

// TestCopiesProveTheirOwn: P2, of a store and a copy of it, which go apart.
func TestCopiesProveTheirOwn(t *testing.T) {
	a := newBoth(t)
	fill(a, 20)
	a.commit()
	b := a.copy()
	for i := range 10 {
		a.put(key(i), []byte("a"))
		b.delete(key(i))
		a.commit()
		b.commit()
	}
	keys := around(a.m)
	for epoch := range 12 {
		proveAll(a, epoch, keys)
		proveAll(b, epoch, keys)
	}
}

func TestManyProofs(t *testing.T) {
	for seed := range uint64(40) {
		r := rand.New(rand.NewPCG(seed, 2))
		b := newBoth(t)
		for range 300 {
			switch n := r.IntN(20); {
			case n < 8:
				b.put(someBytes(r, 4+int(seed%10)), someBytes(r, 13))
			case n < 10:
				b.delete(someBytes(r, 4))
			case n < 12:
				b.commit()
			case n < 16:
				b.prove(r.IntN(len(b.m.trees)+2)-1, someBytes(r, 5))
			default:
				b.proveRange(r.IntN(len(b.m.trees)+2)-1, someBytes(r, 5), someBytes(r, 5))
			}
		}
	}
}

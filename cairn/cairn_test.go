package cairn_test

import (
	"bytes"
	"fmt"
	"math/rand/v2"
	"testing"

	"cairn/api"
	"cairn/cairn"
)

func key(i int) []byte { return fmt.Appendf(nil, "%02d", i) }

// fill puts n keys.
func fill(b both, n int) {
	for i := range n {
		b.put(key(i), fmt.Appendf(nil, "v%d", i))
	}
}

// root commits a copy of the store, so that the store itself stays as it is.
func root(s *cairn.Store) api.Digest {
	again := *s
	c, _ := again.Commit()
	return c.Root
}

func TestDigest(t *testing.T) {
	if d, want := cairn.Digest(nil), (api.Digest{133, 112, 226, 80, 254, 76, 36, 115}); d != want {
		t.Errorf("P3: Digest of no bytes = %v, want %v", d, want)
	}
	if d, want := cairn.Digest([]byte("a")), (api.Digest{130, 177, 157, 152, 89, 166, 19, 34}); d != want {
		t.Errorf("P3: Digest of `a` = %v, want %v", d, want)
	}
	for n := range 300 {
		b := bytes.Repeat([]byte{byte(n)}, n)
		if d, want := cairn.Digest(b), modelDigest(b); d != want {
			t.Errorf("P3: Digest(%v) = %v, want %v", b, d, want)
		}
	}
}

func TestFreshStore(t *testing.T) {
	c, e := cairn.New().Commit()
	r := cairn.Digest([]byte{0, 0})
	want := api.Commit{Epoch: 0, Root: r, Head: api.Head{Size: 1, Sum: cairn.Digest(append([]byte{0}, r[:]...))}}
	if c != want || e != api.OK {
		t.Errorf("P4: Commit = %v, %d, want %v", c, e, want)
	}
}

func TestOneKey(t *testing.T) {
	s := cairn.New()
	s.Put([]byte("a"), []byte("1"))
	if c, e := s.Commit(); e != api.OK || c.Root != cairn.Digest([]byte{0, 1, 1, 97, 1, 49}) {
		t.Errorf("P4: Commit = %v, %d", c, e)
	}
}

func TestLengths(t *testing.T) {
	for _, n := range []int{0, 1, 2, 11, 12, 13, 14, 255, 256, 257, 268, 70000} {
		long := bytes.Repeat([]byte{'x'}, n)
		b := newBoth(t)
		b.put(long, []byte("v"))
		b.put([]byte("k"), long)
		b.commit()
		b.delete(long)
		b.delete(long)
		b.commit()
	}
}

func TestKeysAsBytes(t *testing.T) {
	b := newBoth(t)
	for _, k := range []string{"\xff", "b", "ab", "a", "\x00", "a\x00", "\x80", "\x7f", "\x00\x00", "abc", "\xff\xff", "\xffa"} {
		b.put([]byte(k), []byte(k))
		b.commit()
	}
	b.delete([]byte("a\x00\x00"))
	b.delete([]byte("a\x00"))
	b.commit()
}

func TestOrderOfPutsIsNotSeen(t *testing.T) {
	up, down := newBoth(t), newBoth(t)
	for i := range 60 {
		up.put(key(i), nil)
		down.put(key(59-i), nil)
	}
	if root(up.s) != root(down.s) {
		t.Error("P4: the same keys have two roots")
	}
	up.commit()
	down.commit()
}

func TestTreesOfAllSizes(t *testing.T) {
	levels := map[int]int{}
	for n := range 61 {
		b := newBoth(t)
		for i := range n {
			b.put([]byte{byte(60 + i*14%75), byte(48 + i)}, key(i))
		}
		levels[b.m.rootPage().level()]++
		b.commit()
	}
	for _, level := range []int{0, 1, 2, 3, 4, 6} {
		if levels[level] < 2 {
			t.Errorf("P4: the trees tried are of these levels: %v", levels)
		}
	}
}

func TestTreesOfAllLevels(t *testing.T) {
	for _, c := range []struct {
		key   string
		level int
	}{
		{"a", 0}, {"h", 1}, {"af", 2}, {"y", 3}, {"afp", 4}, {"yf", 5}, {"acwi", 6},
		{"aqbr", 6}, // on the level 6 it would be an end, if there were ends
	} {
		b := newBoth(t)
		b.put([]byte(c.key), []byte("1"))
		b.commit()
		b.put([]byte("zzzzz"), []byte("2"))
		if level := b.m.rootPage().level(); level != c.level {
			t.Errorf("P4: the root page of %s is of level %d, want %d", c.key, level, c.level)
		}
		b.commit()
	}
}

func TestMaxEntries(t *testing.T) {
	b := newBoth(t)
	fill(b, api.MaxEntries)
	full := root(b.s)
	for _, c := range []struct {
		key, value []byte
		want       api.Errno
	}{
		{[]byte("60"), nil, api.ErrFull},
		{[]byte("60"), make([]byte, 12), api.ErrFull},
		{[]byte("60"), make([]byte, 13), api.ErrArg},
		{make([]byte, 13), nil, api.ErrArg},
		{nil, nil, api.ErrArg},
	} {
		if e := b.s.Put(c.key, c.value); e != c.want {
			t.Errorf("P4: Put(%q, %q) to a full store = %d, want %d", c.key, c.value, e, c.want)
		}
		if root(b.s) != full {
			t.Errorf("P1: Put(%q, %q) changed a full store", c.key, c.value)
		}
	}
	b.commit()
	b.put(key(0), []byte("new"))
	b.put(key(59), nil)
	b.commit()
	b.delete(key(30))
	b.put([]byte("60"), nil)
	b.put([]byte("61"), nil)
	b.commit()
}

func TestMaxEpochs(t *testing.T) {
	b := newBoth(t)
	for i := range api.MaxEpochs {
		b.put(key(i), nil)
		b.commit()
	}
	for range 3 {
		if c, e := b.s.Commit(); e != api.ErrFull || c != (api.Commit{}) {
			t.Errorf("P4: Commit after MaxEpochs = %v, %d", c, e)
		}
	}
	b.put([]byte("more"), nil)
	b.delete([]byte("more"))
	b.delete([]byte("more"))
	b.commit()
}

// sums are the log's sums for the commits of a store to which, one by one, the
// keys of the bytes 0 to 39 come, each with itself as its value.
var sums = map[int]api.Digest{
	1:  {34, 29, 165, 83, 137, 70, 54, 70},
	2:  {51, 135, 161, 24, 46, 124, 102, 68},
	3:  {239, 17, 95, 86, 181, 32, 253, 160},
	4:  {85, 226, 200, 182, 222, 89, 125, 124},
	7:  {54, 213, 81, 166, 29, 206, 132, 126},
	16: {32, 198, 200, 238, 33, 107, 221, 42},
	17: {64, 208, 68, 116, 7, 8, 135, 29},
	32: {203, 134, 223, 145, 119, 210, 17, 38},
	33: {136, 193, 110, 231, 53, 187, 181, 109},
	39: {197, 88, 159, 204, 10, 190, 127, 201},
	40: {20, 95, 184, 172, 128, 17, 12, 91},
}

func TestSums(t *testing.T) {
	s := cairn.New()
	for i := range 40 {
		s.Put([]byte{byte(i)}, []byte{byte(i)})
		c, e := s.Commit()
		if e != api.OK || c.Epoch != i || c.Head.Size != i+1 {
			t.Errorf("P4: Commit = %v, %d, want the epoch %d", c, e, i)
		}
		if want, ok := sums[i+1]; ok && c.Head.Sum != want {
			t.Errorf("P4: the sum of %d = %v, want %v", i+1, c.Head.Sum, want)
		}
	}
}

func TestLogKeepsEqualRoots(t *testing.T) {
	b := newBoth(t)
	b.commit()
	b.commit()
	b.put([]byte("a"), nil)
	b.commit()
	b.delete([]byte("a"))
	b.commit()
	b.commit()
}

func TestUnlikePagesOfOneDigest(t *testing.T) {
	b := newBoth(t)
	b.put([]byte("z"), nil)
	b.put([]byte("h"), []byte{96, 231, 30, 39, 67, 117, 173, 226, 247, 56, 25, 170})
	b.commit()
	b.put([]byte("h"), []byte{160, 27, 213, 17, 81, 176, 142, 95, 168, 142, 136, 130})
	b.commit()
	b.put([]byte("i"), nil)
	b.commit()
}

// someBytes gives a list of few kinds of bytes, so that keys often meet.
func someBytes(r *rand.Rand, most int) []byte {
	l := make([]byte, r.IntN(most+1))
	for i := range l {
		l[i] = []byte{0, 'a', 'h', 255}[r.IntN(4)]
	}
	return l
}

func TestManyCalls(t *testing.T) {
	for seed := range uint64(60) {
		r := rand.New(rand.NewPCG(seed, 1))
		b := newBoth(t)
		for range 400 {
			switch n := r.IntN(20); {
			case n < 12:
				b.put(someBytes(r, 4+int(seed%10)), someBytes(r, 13))
			case n < 17:
				b.delete(someBytes(r, 4))
			default:
				b.commit()
			}
		}
	}
}

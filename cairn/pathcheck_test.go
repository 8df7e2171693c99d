package cairn_test

import (
	"math"
	"math/rand/v2"
	"slices"
	"testing"

	"cairn/api"
	"cairn/cairn"
)

// checkIncluded holds CheckIncluded against the model, and gives its answer.
func checkIncluded(t *testing.T, h api.Head, epoch int, root api.Digest, path []api.Digest) bool {
	t.Helper()
	ok, want := cairn.CheckIncluded(h, epoch, root, path), modelCheckIncluded(h, epoch, root, path)
	if ok != want {
		t.Errorf("P8: CheckIncluded(%v, %d, %v, %v) = %v", h, epoch, root, path, ok)
	}
	return ok
}

// checkExtended holds CheckExtended against the model, and gives its answer.
func checkExtended(t *testing.T, old, h api.Head, path []api.Digest) bool {
	t.Helper()
	ok, want := cairn.CheckExtended(old, h, path), modelCheckExtended(old, h, path)
	if ok != want {
		t.Errorf("P8: CheckExtended(%v, %v, %v) = %v", old, h, path, ok)
	}
	return ok
}

// turned gives a digest with each of its bits turned.
func turned(d api.Digest) []api.Digest {
	var l []api.Digest
	for i := range 64 {
		x := d
		x[i/8] ^= 1 << (i % 8)
		l = append(l, x)
	}
	return l
}

// spoiltAt gives a path with the digest at a place turned, left out, doubled or
// changed about with others, and with others put in there.
func spoiltAt(path []api.Digest, i int, others ...api.Digest) [][]api.Digest {
	l := [][]api.Digest{path[:i], path[i:], slices.Concat(path[i:], path[:i])}
	for _, d := range others {
		l = append(l, slices.Insert(slices.Clone(path), i, d))
	}
	if i == len(path) {
		return l
	}
	for _, x := range turned(path[i]) {
		l = append(l, slices.Concat(path[:i], []api.Digest{x}, path[i+1:]))
	}
	l = append(l, slices.Delete(slices.Clone(path), i, i+1), slices.Insert(slices.Clone(path), i, path[i]))
	for j := range i {
		x := slices.Clone(path)
		x[i], x[j] = x[j], x[i]
		l = append(l, x)
	}
	return l
}

// spoilt is spoiltAt at all places, and some more. Some of them may be the path
// itself.
func spoilt(path []api.Digest, others ...api.Digest) [][]api.Digest {
	l := [][]api.Digest{nil, {}, slices.Repeat(path, 2), make([]api.Digest, len(path)), make([]api.Digest, 1000)}
	about := slices.Clone(path)
	slices.Reverse(about)
	l = append(l, about)
	for i := range len(path) + 1 {
		l = append(l, spoiltAt(path, i, append(others, api.Digest{}, modelDigest(nil))...)...)
	}
	return l
}

// TestSpoiltIncluded: with the head, the epoch and the root as they were, no
// other path is accepted.
func TestSpoiltIncluded(t *testing.T) {
	b := logOf(t, api.MaxEpochs)
	for n := 1; n <= api.MaxEpochs; n++ {
		h := b.m.head(n)
		for e, root := range b.m.roots[:n] {
			path := modelIncluded(b.m.roots[:n], e)
			for _, x := range spoilt(path, root, h.Sum) {
				if ok := checkIncluded(t, h, e, root, x); ok != slices.Equal(x, path) {
					t.Errorf("P8: in place of the path of %d in %d, %v = %v", e, n, x, ok)
				}
			}
		}
	}
}

// TestSpoiltExtended is TestSpoiltIncluded, of CheckExtended.
func TestSpoiltExtended(t *testing.T) {
	b := logOf(t, api.MaxEpochs)
	for n := range api.MaxEpochs + 1 {
		h := b.m.head(n)
		for m := range n + 1 {
			old := b.m.head(m)
			path := modelExtended(b.m.roots[:n], m)
			for _, x := range spoilt(path, old.Sum, h.Sum) {
				if ok := checkExtended(t, old, h, x); ok != slices.Equal(x, path) {
					t.Errorf("P8: in place of the path from %d to %d, %v = %v", m, n, x, ok)
				}
			}
		}
	}
}

// TestOtherRootsInLog: at a place only the root that stands there is accepted.
func TestOtherRootsInLog(t *testing.T) {
	b := logOf(t, api.MaxEpochs)
	for n := 1; n <= api.MaxEpochs; n++ {
		h := b.m.head(n)
		for e, root := range b.m.roots[:n] {
			path := modelIncluded(b.m.roots[:n], e)
			others := slices.Concat(b.m.roots, path, turned(root), []api.Digest{{}, h.Sum, modelSum([]api.Digest{root})})
			for _, other := range others {
				if ok := checkIncluded(t, h, e, other, path); ok != (other == root) {
					t.Errorf("P8: %v at %d of %d = %v", other, e, n, ok)
				}
			}
		}
	}
}

// TestOtherEpochs: a root is accepted only at its place.
func TestOtherEpochs(t *testing.T) {
	b := logOf(t, api.MaxEpochs)
	for n := 1; n <= api.MaxEpochs; n++ {
		for e, root := range b.m.roots[:n] {
			path := modelIncluded(b.m.roots[:n], e)
			for _, other := range append(edges(n), e-1, e, e+1, e^1, n-1-e, e+n, e-n, e+1<<32, e+math.MinInt) {
				if ok := checkIncluded(t, b.m.head(n), other, root, path); ok != (other == e) {
					t.Errorf("P8: the path of %d in %d at %d = %v", e, n, other, ok)
				}
			}
			for other := range n {
				if ok := checkIncluded(t, b.m.head(n), other, root, path); ok != (other == e) {
					t.Errorf("P8: the path of %d in %d at %d = %v", e, n, other, ok)
				}
			}
		}
	}
}

// TestOtherSums: in a head, only the log's own sum is accepted, but that none is
// the beginning of every log.
func TestOtherSums(t *testing.T) {
	b := logOf(t, api.MaxEpochs)
	for n := 1; n <= api.MaxEpochs; n++ {
		h := b.m.head(n)
		for m := range n + 1 {
			old := b.m.head(m)
			included, extended := []api.Digest(nil), modelExtended(b.m.roots[:n], m)
			if m < n {
				included = modelIncluded(b.m.roots[:n], m)
			}
			for _, d := range slices.Concat(turned(h.Sum), turned(old.Sum), extended, []api.Digest{{}, old.Sum, h.Sum, modelDigest(nil)}) {
				other := api.Head{Size: n, Sum: d}
				if m < n && checkIncluded(t, other, m, b.m.roots[m], included) != (d == h.Sum) {
					t.Errorf("P8: %d in the head %v", m, other)
				}
				if checkExtended(t, old, other, extended) != (d == h.Sum || m == 0) {
					t.Errorf("P8: from %d to the head %v", m, other)
				}
				other.Size = m
				if checkExtended(t, other, h, extended) != (d == old.Sum) {
					t.Errorf("P8: from the head %v to %d", other, n)
				}
			}
		}
	}
}

// TestOtherSizes: against the model, heads with another size. Some are accepted,
// as the sums can be put together in the same way.
func TestOtherSizes(t *testing.T) {
	b := logOf(t, api.MaxEpochs)
	accepted := 0
	for n := 1; n <= api.MaxEpochs; n++ {
		h := b.m.head(n)
		for m := range n + 1 {
			old := b.m.head(m)
			extended := modelExtended(b.m.roots[:n], m)
			for _, size := range append(edges(n), m-1, m, m+1, n/2, 2*n, n+1<<32, half(n+1), 3, 5, 7, 8, 9, 15, 17, 31, 33) {
				other := api.Head{Size: size, Sum: h.Sum}
				if m < n && checkIncluded(t, other, m, b.m.roots[m], modelIncluded(b.m.roots[:n], m)) && size != n {
					accepted++
				}
				if checkExtended(t, old, other, extended) && size != n && m > 0 {
					accepted++
				}
				other.Sum = old.Sum
				if checkExtended(t, other, h, extended) && size != m {
					accepted++
				}
			}
		}
	}
	if accepted == 0 {
		t.Error("P8: no other size is accepted")
	}
	one, other := b.m.roots[0], b.m.head(3)
	if other.Size = 4; !cairn.CheckIncluded(other, 0, one, modelIncluded(b.m.roots[:3], 0)) {
		t.Error("P8: the sums of 0 in 3 are those of 0 in 4, and refused")
	}
}

// TestSumIsNoRoot: what is the sum of several roots is not accepted as a root,
// nor a root as a sum.
func TestSumIsNoRoot(t *testing.T) {
	b := logOf(t, 4)
	r := b.m.roots
	first, others := modelSum(r[:2]), modelSum(r[2:])
	h := api.Head{Size: 2, Sum: modelSum(r)}
	for _, root := range []api.Digest{first, r[0], modelSum(r[:1])} {
		if checkIncluded(t, h, 0, root, []api.Digest{others}) {
			t.Errorf("P8: %v is accepted as a root", root)
		}
	}
	if checkIncluded(t, api.Head{Size: 1, Sum: r[0]}, 0, r[0], nil) {
		t.Error("P8: a root is accepted as its sum")
	}
	if checkExtended(t, api.Head{Size: 1, Sum: r[0]}, b.m.head(2), []api.Digest{modelSum(r[1:2])}) {
		t.Error("P8: a root is accepted as an old sum")
	}
}

// TestEqualRoots: where roots are the same, so are some sums, and other places
// and paths are accepted.
func TestEqualRoots(t *testing.T) {
	b := newBoth(t)
	for range 16 {
		b.commit()
	}
	accepted := 0
	for n := 1; n <= 16; n++ {
		for e := range n {
			path := modelIncluded(b.m.roots[:n], e)
			for other := range n {
				if checkIncluded(t, b.m.head(n), other, b.m.roots[e], path) && other != e {
					accepted++
				}
			}
			for _, x := range spoilt(path) {
				checkIncluded(t, b.m.head(n), e, b.m.roots[e], x)
			}
			for other := range n + 1 {
				checkExtended(t, b.m.head(other), b.m.head(n), modelExtended(b.m.roots[:n], e))
			}
		}
	}
	if accepted == 0 || !cairn.CheckIncluded(b.m.head(16), 5, b.m.roots[0], modelIncluded(b.m.roots, 11)) {
		t.Errorf("P8: of equal roots %d other places are accepted", accepted)
	}
}

// sizes are those around the powers of 2, up to the greatest one.
func sizes() []int {
	l := []int{math.MaxInt, math.MaxInt - 1, math.MaxInt - 2, 1<<62 + 1<<61, 1<<62 + 1<<40 + 1}
	for i := range 63 {
		l = append(l, 1<<i-1, 1<<i, 1<<i+1)
	}
	return l
}

// TestOldSizeNone: every log begins with none, whatever its sum.
func TestOldSizeNone(t *testing.T) {
	none := api.Head{Sum: cairn.Digest(nil)}
	for _, size := range append(sizes(), edges(0)...) {
		for _, sum := range []api.Digest{{}, none.Sum, {1, 2, 3}} {
			h := api.Head{Size: size, Sum: sum}
			for _, path := range [][]api.Digest{nil, {}, make([]api.Digest, 0, 3)} {
				if checkExtended(t, none, h, path) != (size >= 0) {
					t.Errorf("P8: from none to %v", h)
				}
				for _, other := range append(turned(none.Sum), api.Digest{}) {
					if checkExtended(t, api.Head{Sum: other}, h, path) {
						t.Errorf("P8: from none, with the sum %v, to %v", other, h)
					}
				}
			}
			for _, path := range [][]api.Digest{{{}}, {sum}, {none.Sum}, make([]api.Digest, 100)} {
				if checkExtended(t, none, h, path) {
					t.Errorf("P8: from none to %v with %v", h, path)
				}
			}
		}
	}
}

// TestOldSizeAsGreat: a log is the beginning of itself, without a path.
func TestOldSizeAsGreat(t *testing.T) {
	for _, size := range append(sizes(), edges(7)...) {
		if size == 0 {
			continue
		}
		h := api.Head{Size: size, Sum: api.Digest{9, 8, 7}}
		if checkExtended(t, h, h, nil) != (size > 0) || checkExtended(t, h, h, []api.Digest{}) != (size > 0) {
			t.Errorf("P8: from %v to itself", h)
		}
		for _, path := range [][]api.Digest{{{}}, {h.Sum}, {h.Sum, h.Sum}, make([]api.Digest, 64)} {
			if checkExtended(t, h, h, path) {
				t.Errorf("P8: from %v to itself with %v", h, path)
			}
		}
		for _, sum := range turned(h.Sum) {
			if checkExtended(t, api.Head{Size: size, Sum: sum}, h, nil) || checkExtended(t, h, api.Head{Size: size, Sum: sum}, nil) {
				t.Errorf("P8: from %v to it with the sum %v", h, sum)
			}
		}
	}
}

// TestNumbersOutside: no path helps, whatever its length.
func TestNumbersOutside(t *testing.T) {
	outside := [][2]int{
		{-1, 1}, {-1, 0}, {-1, -1}, {-2, -1}, {0, -1}, {1, 0}, {2, 1}, {8, 7}, {41, 40}, {1 << 32, 1}, {-1 << 32, 1}, {1<<32 + 1, 2},
		{math.MinInt, 1}, {math.MinInt, math.MaxInt}, {math.MinInt, math.MinInt}, {math.MaxInt, math.MinInt}, {math.MaxInt, math.MaxInt - 1}, {-1, math.MaxInt},
	}
	for n := range 70 {
		path := make([]api.Digest, n)
		for _, x := range outside {
			h := api.Head{Size: x[1]}
			if checkIncluded(t, h, x[0], api.Digest{}, path) || checkExtended(t, api.Head{Size: x[0]}, h, path) {
				t.Errorf("P8: %v is accepted with %d digests", x, n)
			}
			sum, none := modelSum(make([]api.Digest, 1)), modelSum(nil)
			if checkIncluded(t, api.Head{Size: x[1], Sum: sum}, x[0], api.Digest{}, path) || checkExtended(t, api.Head{Size: x[0], Sum: none}, api.Head{Size: x[1], Sum: none}, path) {
				t.Errorf("P8: %v is accepted with %d digests", x, n)
			}
		}
		for _, x := range []int{0, 1, 7, 40, 1 << 62, math.MaxInt} {
			if checkIncluded(t, api.Head{Size: x}, x, api.Digest{}, path) {
				t.Errorf("P8: the place %d of as many is accepted with %d digests", x, n)
			}
		}
	}
}

// someDigests gives a list of digests.
func someDigests(r *rand.Rand, n int) []api.Digest {
	l := make([]api.Digest, n)
	for i := range l {
		for j := range l[i] {
			l[i][j] = byte(r.IntN(256))
		}
	}
	return l
}

// greatIncluded makes, for a size that no store has, a path of every length and
// a head for it: one length is accepted.
func greatIncluded(t *testing.T, r *rand.Rand, size, e int) {
	t.Helper()
	accepted := 0
	l := someDigests(r, 66)
	for n := range l {
		sum, _ := climb(size, e, l[65], l[:n])
		h := api.Head{Size: size, Sum: sum}
		if !checkIncluded(t, h, e, l[65], l[:n]) {
			continue
		}
		accepted++
		for _, x := range spoiltAt(l[:n:n], r.IntN(n+1), l[64]) {
			if checkIncluded(t, h, e, l[65], x) != slices.Equal(x, l[:n]) {
				t.Errorf("P8: in place of the path of %d in %d %v", e, size, x)
			}
		}
		checkIncluded(t, h, e^1, l[65], l[:n])
		checkIncluded(t, h, e, l[64], l[:n])
		checkIncluded(t, api.Head{Size: size - 1, Sum: sum}, e, l[65], l[:n])
	}
	if accepted != 1 {
		t.Errorf("P8: of the paths of %d in %d %d are accepted", e, size, accepted)
	}
}

// greatExtended is greatIncluded, of CheckExtended.
func greatExtended(t *testing.T, r *rand.Rand, m, size int) {
	t.Helper()
	accepted := 0
	l := someDigests(r, 67)
	for n := range l {
		first, all, _ := climbTwo(m, size, l[66], l[:n])
		old, h := api.Head{Size: m, Sum: first}, api.Head{Size: size, Sum: all}
		if !checkExtended(t, old, h, l[:n]) {
			continue
		}
		accepted++
		for _, x := range spoiltAt(l[:n:n], r.IntN(n+1), l[64]) {
			if checkExtended(t, old, h, x) != slices.Equal(x, l[:n]) {
				t.Errorf("P8: in place of the path from %d to %d %v", m, size, x)
			}
		}
		checkExtended(t, api.Head{Size: m ^ 1, Sum: first}, h, l[:n])
		checkExtended(t, api.Head{Size: m, Sum: l[65]}, h, l[:n])
		checkExtended(t, old, api.Head{Size: size - 1, Sum: all}, l[:n])
		checkExtended(t, old, api.Head{Size: size, Sum: l[65]}, l[:n])
	}
	if accepted != 1 {
		t.Errorf("P8: of the paths from %d to %d %d are accepted", m, size, accepted)
	}
}

func TestHeadsOfNoStore(t *testing.T) {
	r := rand.New(rand.NewPCG(1, 9))
	for _, size := range sizes() {
		for _, e := range []int{0, 1, size / 2, size/2 + 1, size/3*2 + 1, half(max(size, 2)) - 1, half(max(size, 2)), size - 2, size - 1} {
			if e >= 0 && e < size {
				greatIncluded(t, r, size, e)
			}
			if e >= 1 && e < size {
				greatExtended(t, r, e, size)
			}
		}
	}
}

// TestGreaterLogs: sizes beyond MaxEpochs, with paths of logs of roots.
func TestGreaterLogs(t *testing.T) {
	roots := someDigests(rand.New(rand.NewPCG(2, 9)), 140)
	heads := []api.Head{}
	for n := range len(roots) + 1 {
		heads = append(heads, api.Head{Size: n, Sum: modelSum(roots[:n])})
	}
	for n := range heads {
		for m := range n + 1 {
			if !checkExtended(t, heads[m], heads[n], modelExtended(roots[:n], m)) {
				t.Errorf("P8: the path from %d to %d is refused", m, n)
			}
			if m < n && !checkIncluded(t, heads[n], m, roots[m], modelIncluded(roots[:n], m)) {
				t.Errorf("P8: the path of %d in %d is refused", m, n)
			}
		}
	}
}

// TestSomePaths: against the model, any numbers with short paths of few digests.
func TestSomePaths(t *testing.T) {
	b := logOf(t, 9)
	few := slices.Concat(b.m.roots[:3], []api.Digest{{}, modelDigest(nil)})
	for n := range 9 {
		for m := range n {
			few = append(few, modelSum(b.m.roots[m:n]))
		}
	}
	accepted := 0
	r := rand.New(rand.NewPCG(3, 9))
	some := func() api.Digest { return few[r.IntN(len(few))] }
	for range 400000 {
		path := make([]api.Digest, r.IntN(3))
		for i := range path {
			path[i] = some()
		}
		old, h := api.Head{Size: r.IntN(6) - 1, Sum: some()}, api.Head{Size: r.IntN(6) - 1, Sum: some()}
		if checkIncluded(t, h, old.Size, old.Sum, path) {
			accepted++
		}
		if checkExtended(t, old, h, path) {
			accepted++
		}
	}
	if accepted < 50 {
		t.Errorf("P8: %d paths are accepted", accepted)
	}
}

// TestLongPaths: P1, they end.
func TestLongPaths(t *testing.T) {
	path := make([]api.Digest, 1<<20)
	for _, size := range append(sizes(), edges(0)...) {
		h := api.Head{Size: size}
		for _, x := range []int{0, 1, size / 2, size - 1, size} {
			if cairn.CheckIncluded(h, x, api.Digest{}, path) || cairn.CheckExtended(api.Head{Size: x}, h, path) {
				t.Errorf("P8: a path of 2 to the 20th is accepted for %d and %d", x, size)
			}
		}
	}
}

// TestPathsHandedIn: P2, they and their spare room stay as they were, accepted
// and refused; and nil and empty are one.
func TestPathsHandedIn(t *testing.T) {
	b := logOf(t, api.MaxEpochs)
	for n := 1; n <= api.MaxEpochs; n++ {
		for m := range n {
			for _, path := range [][]api.Digest{modelIncluded(b.m.roots[:n], m), modelExtended(b.m.roots[:n], m)} {
				for cut := range min(len(path), 2) + 1 {
					whole := slices.Concat(path, []api.Digest{{1}, {2}, {3}, {4}})
					before := slices.Clone(whole)
					list := whole[:len(path)-cut]
					cairn.CheckIncluded(b.m.head(n), m, b.m.roots[m], list)
					cairn.CheckExtended(b.m.head(m), b.m.head(n), list)
					if !slices.Equal(whole, before) {
						t.Errorf("P2: a path handed in became %v, want %v", whole, before)
					}
				}
			}
		}
	}
	one := b.m.head(1)
	for _, path := range [][]api.Digest{nil, {}} {
		if !cairn.CheckIncluded(one, 0, b.m.roots[0], path) || !cairn.CheckExtended(one, one, path) || cairn.CheckExtended(one, b.m.head(2), path) {
			t.Errorf("P1: the path %#v", path)
		}
	}
}

// TestPathChecksHangOnArgumentsAlone: P1, whatever was checked, committed or
// written into a path ahead.
func TestPathChecksHangOnArgumentsAlone(t *testing.T) {
	b := logOf(t, 7)
	path := modelIncluded(b.m.roots, 3)
	longer := modelExtended(b.m.roots, 3)
	for range 3 {
		if !checkIncluded(t, b.m.head(7), 3, b.m.roots[3], path) || !checkExtended(t, b.m.head(3), b.m.head(7), longer) {
			t.Error("P1: a path is refused that was accepted")
		}
		path[0][0] ^= 1
		longer[0][0] ^= 1
		if checkIncluded(t, b.m.head(7), 3, b.m.roots[3], path) || checkExtended(t, b.m.head(3), b.m.head(7), longer) {
			t.Error("P2: a path is accepted as it was, not as it is")
		}
		path[0][0] ^= 1
		longer[0][0] ^= 1
		for _, s := range stores() {
			s.Commit()
		}
	}
}

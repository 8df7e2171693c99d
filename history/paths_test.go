package history

import (
	"math"
	"slices"
	"testing"

	"cairn/api"
	"cairn/digest"
)

// parts gives the sums of the parts of a log of 7 roots.
func parts() (roots, d []api.Digest, ab, cd, ef, abcd, efg api.Digest) {
	for i := range 7 {
		roots = append(roots, api.Digest{byte(i), 9})
		d = append(d, cat(0, roots[i]))
	}
	ab, cd, ef = cat(1, d[0], d[1]), cat(1, d[2], d[3]), cat(1, d[4], d[5])
	return roots, d, ab, cd, ef, cat(1, ab, cd), cat(1, ef, d[6])
}

func TestIncluded(t *testing.T) {
	roots, d, ab, cd, ef, abcd, efg := parts()
	for _, c := range []struct {
		place, n int
		want     []api.Digest
	}{
		{0, 1, nil},
		{0, 2, []api.Digest{d[1]}},
		{1, 2, []api.Digest{d[0]}},
		{0, 3, []api.Digest{d[1], d[2]}},
		{2, 3, []api.Digest{ab}},
		{3, 4, []api.Digest{d[2], ab}},
		{4, 5, []api.Digest{abcd}},
		{1, 7, []api.Digest{d[0], cd, efg}},
		{2, 7, []api.Digest{d[3], ab, efg}},
		{5, 7, []api.Digest{d[4], d[6], abcd}},
		{6, 7, []api.Digest{ef, abcd}},
	} {
		l := Included(roots[:c.n], c.place)
		if !slices.Equal(l, c.want) {
			t.Errorf("P7: the path of %d in %d = %v, want %v", c.place, c.n, l, c.want)
		}
		if !IsIncluded(api.Head{Size: c.n, Sum: Sum(roots[:c.n])}, c.place, roots[c.place], l) {
			t.Errorf("P8: the path of %d in %d is refused", c.place, c.n)
		}
	}
}

func TestExtended(t *testing.T) {
	roots, d, ab, cd, ef, abcd, efg := parts()
	for _, c := range []struct {
		m, n int
		want []api.Digest
	}{
		{0, 0, nil}, {0, 1, nil}, {0, 7, nil}, {1, 1, nil}, {3, 3, nil}, {4, 4, nil}, {7, 7, nil},
		{1, 2, []api.Digest{d[1]}},
		{1, 3, []api.Digest{d[1], d[2]}},
		{2, 3, []api.Digest{d[2]}},
		{3, 4, []api.Digest{d[2], d[3], ab}},
		{1, 7, []api.Digest{d[1], cd, efg}},
		{2, 7, []api.Digest{cd, efg}},
		{3, 7, []api.Digest{d[2], d[3], ab, efg}},
		{4, 7, []api.Digest{efg}},
		{5, 7, []api.Digest{d[4], d[5], d[6], abcd}},
		{6, 7, []api.Digest{ef, d[6], abcd}},
	} {
		l := Extended(roots[:c.n], c.m)
		if !slices.Equal(l, c.want) {
			t.Errorf("P7: the path from %d to %d = %v, want %v", c.m, c.n, l, c.want)
		}
		old, h := api.Head{Size: c.m, Sum: Sum(roots[:c.m])}, api.Head{Size: c.n, Sum: Sum(roots[:c.n])}
		if !IsExtended(old, h, l) {
			t.Errorf("P8: the path from %d to %d is refused", c.m, c.n)
		}
	}
}

// TestRootsAreNotWritten: P2, the roots and their spare room stay as they were,
// and the paths share none of them.
func TestRootsAreNotWritten(t *testing.T) {
	whole := roots(60)
	before := slices.Clone(whole)
	for n := 1; n <= 50; n++ {
		for i := range n {
			for _, l := range [][]api.Digest{Included(whole[:n], i), Extended(whole[:n], i+1)} {
				clear(l[:cap(l)])
			}
		}
	}
	if !slices.Equal(whole, before) {
		t.Errorf("P2: the roots became %v", whole)
	}
}

// TestGreatestSize: the sums of a log that is as great as a number can be.
func TestGreatestSize(t *testing.T) {
	path := make([]api.Digest, 62)
	sum := cat(0, api.Digest{5})
	for i := range path {
		path[i] = digest.Of([]byte{byte(i)})
		sum = cat(1, path[i], sum)
	}
	h := api.Head{Size: math.MaxInt, Sum: sum}
	if !IsIncluded(h, math.MaxInt-1, api.Digest{5}, path) {
		t.Error("P8: the path of the last of the greatest log is refused")
	}
	if IsIncluded(h, math.MaxInt-2, api.Digest{5}, path) || IsIncluded(h, math.MaxInt, api.Digest{5}, path) || IsIncluded(h, 0, api.Digest{5}, path) {
		t.Error("P8: the path of the last of the greatest log is accepted for another")
	}
	old, all := sum, sum
	for i := range 5 {
		path[i] = digest.Of([]byte{byte(i)})
		all = cat(1, all, path[i])
	}
	if !IsExtended(api.Head{Size: 1 << 57, Sum: old}, api.Head{Size: 1 << 62, Sum: all}, path[:5]) {
		t.Error("P8: the path from one great log to another is refused")
	}
}

func TestFirstPartOfGreatNumbers(t *testing.T) {
	for i := 1; i < 62; i++ {
		k := 1 << i
		if firstPart(k) != k/2 || firstPart(k+1) != k || firstPart(2*k-1) != k {
			t.Errorf("P7: firstPart around %d = %d, %d, %d", k, firstPart(k), firstPart(k+1), firstPart(2*k-1))
		}
	}
	if k := firstPart(math.MaxInt); k != 1<<62 {
		t.Errorf("P7: firstPart(MaxInt) = %d", k)
	}
}

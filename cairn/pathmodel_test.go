package cairn_test

import (
	"slices"

	"cairn/api"
	"cairn/cairn"
)

// half gives the greatest power of 2 below n.
func half(n int) int {
	k := 1
	for k < n-k {
		k *= 2
	}
	return k
}

// modelIncluded follows the words from the whole log down to the one root, and
// turns what it met about.
func modelIncluded(roots []api.Digest, e int) []api.Digest {
	var met []api.Digest
	for len(roots) > 1 {
		k := half(len(roots))
		if e < k {
			met = append(met, modelSum(roots[k:]))
			roots = roots[:k]
		} else {
			met = append(met, modelSum(roots[:k]))
			roots, e = roots[k:], e-k
		}
	}
	slices.Reverse(met)
	return met
}

// modelExtended is modelIncluded, of the log's first m.
func modelExtended(roots []api.Digest, m int) []api.Digest {
	if m == 0 {
		return nil
	}
	var met []api.Digest
	own := true
	for m < len(roots) {
		k := half(len(roots))
		if m <= k {
			met = append(met, modelSum(roots[k:]))
			roots = roots[:k]
		} else {
			met = append(met, modelSum(roots[:k]))
			roots, m, own = roots[k:], m-k, false
		}
	}
	if !own {
		met = append(met, modelSum(roots))
	}
	slices.Reverse(met)
	return met
}

func (m *model) included(epoch, size int) ([]api.Digest, api.Errno) {
	if size < 1 || size > len(m.roots) || epoch < 0 || epoch >= size {
		return nil, api.ErrEpoch
	}
	return modelIncluded(m.roots[:size], epoch), api.OK
}

func (m *model) extended(old, size int) ([]api.Digest, api.Errno) {
	if size < 0 || size > len(m.roots) || old < 0 || old > size {
		return nil, api.ErrEpoch
	}
	return modelExtended(m.roots[:size], old), api.OK
}

// head gives the head of the first n roots.
func (m *model) head(n int) api.Head {
	return api.Head{Size: n, Sum: modelSum(m.roots[:n])}
}

// included holds Included against the model, and its path against the head.
func (b both) included(epoch, size int) {
	b.t.Helper()
	l, e := b.s.Included(epoch, size)
	if want, wantE := b.m.included(epoch, size); !slices.Equal(l, want) || e != wantE || e != api.OK && l != nil {
		b.t.Errorf("P7: Included(%d, %d) = %v, %d, want %v, %d", epoch, size, l, e, want, wantE)
	}
	if e == api.OK && !cairn.CheckIncluded(b.m.head(size), epoch, b.m.roots[epoch], l) {
		b.t.Errorf("P9: the path of %d in %d is refused", epoch, size)
	}
}

// extended is included, of Extended.
func (b both) extended(old, size int) {
	b.t.Helper()
	l, e := b.s.Extended(old, size)
	if want, wantE := b.m.extended(old, size); !slices.Equal(l, want) || e != wantE || e != api.OK && l != nil {
		b.t.Errorf("P7: Extended(%d, %d) = %v, %d, want %v, %d", old, size, l, e, want, wantE)
	}
	if e == api.OK && !cairn.CheckExtended(b.m.head(old), b.m.head(size), l) {
		b.t.Errorf("P9: the path from %d to %d is refused", old, size)
	}
}

// allPaths asks for every path of the logs up to this size.
func (b both) allPaths(size int) {
	b.t.Helper()
	for n := range size + 1 {
		for e := range n {
			b.included(e, n)
		}
		for m := range n + 1 {
			b.extended(m, n)
		}
	}
}

func two(first, others api.Digest) api.Digest {
	return modelDigest(append(append([]byte{1}, first[:]...), others[:]...))
}

// climber goes from a root up to the whole log: its place and that of the last
// root, both counted in parts of one size, which doubles. A part that is alone
// at the end goes up without a sum.
type climber struct{ place, last int }

func (c *climber) up() { c.place, c.last = c.place/2, c.last/2 }

// fromRight goes up by one sum, and tells whether the other one is ahead.
func (c *climber) fromRight() bool {
	right := c.place%2 == 1 || c.place == c.last
	for right && c.place%2 == 0 {
		c.up()
	}
	c.up()
	return right
}

// climb puts the sum of n roots together from the path's beginning. It wants a
// place in the log.
func climb(n, e int, root api.Digest, path []api.Digest) (sum api.Digest, ok bool) {
	c := climber{e, n - 1}
	sum = modelDigest(append([]byte{0}, root[:]...))
	for _, d := range path {
		if c.last == 0 {
			return sum, false
		}
		if c.fromRight() {
			sum = two(d, sum)
		} else {
			sum = two(sum, d)
		}
	}
	return sum, c.last == 0
}

// climbTwo is climb, of the sums of the first m and of all. It wants an m from 1
// to below n.
func climbTwo(m, n int, own api.Digest, path []api.Digest) (first, all api.Digest, ok bool) {
	if m&(m-1) == 0 {
		path = slices.Concat([]api.Digest{own}, path)
	}
	if len(path) == 0 {
		return first, all, false
	}
	c := climber{m - 1, n - 1}
	for c.place%2 == 1 {
		c.up()
	}
	first, all = path[0], path[0]
	for _, d := range path[1:] {
		if c.last == 0 {
			return first, all, false
		}
		if c.fromRight() {
			first, all = two(d, first), two(d, all)
		} else {
			all = two(all, d)
		}
	}
	return first, all, c.last == 0
}

func modelCheckIncluded(h api.Head, epoch int, root api.Digest, path []api.Digest) bool {
	if epoch < 0 || epoch >= h.Size {
		return false
	}
	sum, ok := climb(h.Size, epoch, root, path)
	return ok && sum == h.Sum
}

func modelCheckExtended(old, h api.Head, path []api.Digest) bool {
	switch {
	case old.Size < 0 || old.Size > h.Size:
		return false
	case old.Size == 0:
		return old.Sum == modelDigest(nil) && len(path) == 0
	case old.Size == h.Size:
		return old.Sum == h.Sum && len(path) == 0
	}
	first, all, ok := climbTwo(old.Size, h.Size, old.Sum, path)
	return ok && first == old.Sum && all == h.Sum
}

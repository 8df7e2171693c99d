package history

import "cairn/api"

// IsIncluded tells whether this is the path that a root is at a place of the
// log of a head.
func IsIncluded(h api.Head, place int, root api.Digest, path []api.Digest) bool {
	if place < 0 || place >= h.Size {
		return false
	}
	sum, ok := sumWith(h.Size, place, root, path)
	return ok && sum == h.Sum
}

// sumWith puts the sum of n roots together from the one at a place and its
// path, and tells whether the path is as long as such a one. It goes from the
// path's end, where the greatest parts are: with each step the log that is left
// is no more than a power of 2, and that one halves, so that this ends soon at
// every n.
func sumWith(n, place int, root api.Digest, path []api.Digest) (sum api.Digest, ok bool) {
	if n == 1 {
		return sumOfOne(root), len(path) == 0
	}
	if len(path) == 0 {
		return sum, false
	}
	rest, other := path[:len(path)-1], path[len(path)-1]
	k := firstPart(n)
	if place < k {
		sum, ok = sumWith(k, place, root, rest)
		return sumOfTwo(sum, other), ok
	}
	sum, ok = sumWith(n-k, place-k, root, rest)
	return sumOfTwo(other, sum), ok
}

// IsExtended tells whether this is the path that the log of an old head is the
// beginning of the log of another one.
func IsExtended(old, h api.Head, path []api.Digest) bool {
	if old.Size < 0 || old.Size > h.Size {
		return false
	}
	if old.Size == 0 {
		// Nothing hangs on the other sum: every log begins with none.
		return len(path) == 0 && old.Sum == Sum(nil)
	}
	first, all, ok := sumsWith(old.Size, h.Size, &old.Sum, path)
	return ok && first == old.Sum && all == h.Sum
}

// sumsWith puts the sums of the first m and of all n roots of a part of a log
// together from a path, and tells whether the path is as long as such a one. Its
// steps are those of sumWith. The own sum is that of the first m, where the part
// begins with the log; else there is none.
func sumsWith(m, n int, own *api.Digest, path []api.Digest) (first, all api.Digest, ok bool) {
	if m == n && own != nil {
		return *own, *own, len(path) == 0
	}
	if len(path) == 0 {
		return first, all, false
	}
	rest, other := path[:len(path)-1], path[len(path)-1]
	if m == n {
		return other, other, len(rest) == 0
	}
	k := firstPart(n)
	if m <= k {
		first, all, ok = sumsWith(m, k, own, rest)
		return first, sumOfTwo(all, other), ok
	}
	first, all, ok = sumsWith(m-k, n-k, nil, rest)
	return sumOfTwo(other, first), sumOfTwo(other, all), ok
}

package history

import "cairn/api"

// Included gives the path that the root at a place of a log of these roots is
// there.
func Included(roots []api.Digest, place int) []api.Digest {
	if len(roots) == 1 {
		return nil
	}
	k := firstPart(len(roots))
	if place < k {
		return append(Included(roots[:k], place), Sum(roots[k:]))
	}
	return append(Included(roots[k:], place-k), Sum(roots[:k]))
}

// Extended gives the path that the first m of these roots are the beginning of
// a log of them all.
func Extended(roots []api.Digest, m int) []api.Digest {
	if m == 0 {
		return nil
	}
	return extended(roots, m, true)
}

// extended is Extended of a part of a log. The part is own if it begins where
// the log begins: who has the sum of the first m has that of the part then.
func extended(roots []api.Digest, m int, own bool) []api.Digest {
	if m == len(roots) {
		if own {
			return nil
		}
		return []api.Digest{Sum(roots)}
	}
	k := firstPart(len(roots))
	if m <= k {
		return append(extended(roots[:k], m, own), Sum(roots[k:]))
	}
	return append(extended(roots[k:], m-k, false), Sum(roots[:k]))
}

package history

import (
	"testing"

	"cairn/api"
	"cairn/digest"
)

func cat(first byte, l ...api.Digest) api.Digest {
	b := []byte{first}
	for _, d := range l {
		b = append(b, d[:]...)
	}
	return digest.Of(b)
}

func roots(n int) []api.Digest {
	var l []api.Digest
	for i := range n {
		l = append(l, api.Digest{byte(i), 1, 2, 3, 4, 5, 6, 7})
	}
	return l
}

func TestSmallSums(t *testing.T) {
	r := roots(7)
	one := func(i int) api.Digest { return cat(0, r[i]) }
	two := func(a, b api.Digest) api.Digest { return cat(1, a, b) }
	four := two(two(one(0), one(1)), two(one(2), one(3)))
	for n, want := range []api.Digest{
		{133, 112, 226, 80, 254, 76, 36, 115},
		one(0),
		two(one(0), one(1)),
		two(two(one(0), one(1)), one(2)),
		four,
		two(four, one(4)),
		two(four, two(one(4), one(5))),
		two(four, two(two(one(4), one(5)), one(6))),
	} {
		if d := Sum(r[:n]); d != want {
			t.Errorf("P4: sum of %d = %v, want %v", n, d, want)
		}
	}
}

func TestNilIsEmpty(t *testing.T) {
	if Sum(nil) != Sum([]api.Digest{}) {
		t.Error("P1: nil and empty have two sums")
	}
}

func TestFirstPart(t *testing.T) {
	for n := 2; n <= 1100; n++ {
		want := 1
		for want*2 < n {
			want *= 2
		}
		if k := firstPart(n); k != want {
			t.Errorf("P4: firstPart(%d) = %d, want %d", n, k, want)
		}
	}
}

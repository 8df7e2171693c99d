package proofs

import (
	"bytes"
	"fmt"
	"testing"

	"cairn/api"
	"cairn/digest"
	"cairn/page"
	"cairn/tree"
)

// root gives the root page of the tree of these keys, each with itself as its
// value.
func root(keys ...string) *tree.Node {
	var entries []page.Entry
	for _, k := range keys {
		entries = append(entries, page.Entry{Key: []byte(k), Value: []byte(k)})
	}
	return new(tree.Known).Tree(entries)
}

// pages gives pages one behind the other.
func pages(l ...*tree.Node) []byte {
	var b []byte
	for _, n := range l {
		b = append(b, byte(len(n.Bytes)/256), byte(len(n.Bytes)%256))
		b = append(b, n.Bytes...)
	}
	return b
}

// proof gives the proof of a range, or of one key if to is empty.
func proof(r *tree.Node, from, to string) []byte {
	if to == "" {
		return OfKey(r, []byte(from))
	}
	return OfRange(r, []byte(from), []byte(to))
}

func TestOnePage(t *testing.T) {
	for _, r := range []*tree.Node{root(), root("b"), root("b", "c", "h")} {
		want := append([]byte{0, byte(len(r.Bytes))}, r.Bytes...)
		for _, k := range []string{"a", "b", "bb", "c", "h", "z"} {
			for _, to := range []string{"", k + "z"} {
				if p := proof(r, k, to); !bytes.Equal(p, want) {
					t.Errorf("P5: the proof of %q %q in %v = %v", k, to, r.Bytes, p)
				}
			}
		}
	}
}

func TestTwoLevels(t *testing.T) {
	// h and j are ends
	r := root("b", "c", "h", "i", "j", "w", "x")
	if len(r.Below) != 3 || len(r.Below[0].Below) != 0 {
		t.Fatalf("P5: the tree is %v", r)
	}
	x, y, z := r.Below[0], r.Below[1], r.Below[2]
	for _, c := range []struct {
		from, to string
		want     []byte
	}{
		{"a", "", pages(r, x)},
		{"b", "", pages(r, x)},
		{"h", "", pages(r, x)},
		{"h\x00", "", pages(r, y)},
		{"j", "", pages(r, y)},
		{"k", "", pages(r, z)},
		{"x", "", pages(r, z)},
		{"x\x00", "", pages(r)},
		{"a", "aa", pages(r, x)},
		{"a", "b", pages(r, x)},
		{"a", "h", pages(r, x)},
		{"h", "h\x00", pages(r, x, y)},
		{"h\x00", "i", pages(r, y)},
		{"b", "j", pages(r, x, y)},
		{"b", "j\x00", pages(r, x, y, z)},
		{"i", "x", pages(r, y, z)},
		{"j\x00", "k", pages(r, z)},
		{"w", "zz", pages(r, z)},
		{"a", "zz", pages(r, x, y, z)},
		{"x\x00", "zz", pages(r)},
	} {
		p := proof(r, c.from, c.to)
		if !bytes.Equal(p, c.want) {
			t.Errorf("P5: the proof of %q %q = %v, want %v", c.from, c.to, p, c.want)
		}
	}
}

// TestSevenLevels: the first entry of a page counts anew in each page, so that
// whole pages follow where the range begins or ends inside another one.
func TestSevenLevels(t *testing.T) {
	var entries []page.Entry
	for i := range 60 {
		entries = append(entries, page.Entry{Key: fmt.Appendf(nil, "%02d", i), Value: fmt.Appendf(nil, "v%d", i)})
	}
	r := new(tree.Known).Tree(entries)
	for _, c := range []struct {
		from, to string
		size     int
		want     api.Digest
	}{
		{"0", "", 172, api.Digest{151, 62, 192, 88, 235, 15, 44, 225}},
		{"15", "", 202, api.Digest{80, 14, 114, 31, 149, 85, 240, 221}},
		{"30", "", 254, api.Digest{68, 152, 123, 221, 60, 24, 125, 78}},
		{"300", "", 254, api.Digest{68, 152, 123, 221, 60, 24, 125, 78}},
		{"59", "", 170, api.Digest{40, 174, 150, 154, 167, 201, 129, 183}},
		{"6", "", 26, api.Digest{216, 89, 195, 64, 243, 78, 223, 226}},
		{"0", "00", 172, api.Digest{151, 62, 192, 88, 235, 15, 44, 225}},
		{"10", "20", 447, api.Digest{13, 47, 5, 59, 141, 117, 97, 178}},
		{"3", "45", 457, api.Digest{208, 82, 181, 119, 59, 228, 217, 11}},
		{"0", "9", 879, api.Digest{251, 185, 226, 143, 27, 97, 66, 5}},
		{"59", "6", 170, api.Digest{40, 174, 150, 154, 167, 201, 129, 183}},
		{"17", "171", 254, api.Digest{68, 152, 123, 221, 60, 24, 125, 78}},
		{"6", "7", 26, api.Digest{216, 89, 195, 64, 243, 78, 223, 226}},
	} {
		p := proof(r, c.from, c.to)
		if len(p) != c.size || digest.Of(p) != c.want {
			t.Errorf("P5: the proof of %q %q has %d bytes, and the digest %v, want %d, %v", c.from, c.to, len(p), digest.Of(p), c.size, c.want)
		}
	}
}

// TestProofsAreNewMemory: P2, of the trees' pages and of two proofs.
func TestProofsAreNewMemory(t *testing.T) {
	r := root("b", "c", "h", "i", "j", "w", "x")
	want := pages(r, r.Below[0])
	for range 2 {
		one, other := OfKey(r, []byte("b")), OfRange(r, []byte("b"), []byte("c"))
		clear(one[:cap(one)])
		if !bytes.Equal(other, want) {
			t.Errorf("P2: a proof became %v", other)
		}
		clear(other[:cap(other)])
	}
}

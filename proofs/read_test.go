package proofs

import (
	"bytes"
	"fmt"
	"testing"

	"cairn/api"
	"cairn/digest"
	"cairn/page"
)

// read reads the proof of a range, or of one key if to is empty, and gives the
// keys that it tells, with a blank ahead of each.
func read(root api.Digest, from, to string, proof []byte) (keys string, ok bool) {
	var entries []page.Entry
	if to == "" {
		entries, ok = ReadKey(root, []byte(from), proof)
	} else {
		entries, ok = ReadRange(root, []byte(from), []byte(to), proof)
	}
	for _, e := range entries {
		keys += " " + string(e.Key)
		if !bytes.Equal(e.Value, e.Key) {
			keys += fmt.Sprintf(" with %q", e.Value)
		}
	}
	return keys, ok
}

// TestReadPages: all entries of the pages of level 0 are told, also those that
// are not in the range.
func TestReadPages(t *testing.T) {
	// h and j are ends
	r := root("b", "c", "h", "i", "j", "w", "x")
	x, y, z := r.Below[0], r.Below[1], r.Below[2]
	for _, c := range []struct {
		from, to string
		proof    []byte
		want     string
	}{
		{"b", "", pages(r, x), " b c h"},
		{"h\x00", "", pages(r, y), " i j"},
		{"x", "", pages(r, z), " w x"},
		{"x\x00", "", pages(r), ""},
		{"a", "h", pages(r, x), " b c h"},
		{"c", "i", pages(r, x, y), " b c h i j"},
		{"a", "zz", pages(r, x, y, z), " b c h i j w x"},
		{"y", "zz", pages(r), ""},
	} {
		if got, ok := read(r.Digest, c.from, c.to, c.proof); !ok || got != c.want {
			t.Errorf("P6: %q %q tells%s, %v, want%s", c.from, c.to, got, ok, c.want)
		}
		for _, other := range [][]byte{nil, pages(x), pages(x, r), pages(r, r), pages(r, y, x), pages(r, x, z), c.proof[1:], c.proof[:len(c.proof)-1], append(bytes.Clone(c.proof), 0), append(bytes.Clone(c.proof), pages(z)...)} {
			if got, ok := read(r.Digest, c.from, c.to, other); ok || got != "" {
				t.Errorf("P6: %q %q by %v tells%s, %v", c.from, c.to, other, got, ok)
			}
		}
		if got, ok := read(digest.Of(c.proof), c.from, c.to, c.proof); ok || got != "" {
			t.Errorf("P6: %q %q with another root tells%s, %v", c.from, c.to, got, ok)
		}
	}
}

// TestReadWhatWasMade: in a tree of seven levels.
func TestReadWhatWasMade(t *testing.T) {
	var keys []string
	for i := range 60 {
		keys = append(keys, fmt.Sprintf("%02d", i))
	}
	r := root(keys...)
	for i, k := range keys {
		if got, ok := read(r.Digest, k, "", OfKey(r, []byte(k))); !ok || !bytes.Contains([]byte(got), []byte(k)) {
			t.Errorf("P6: the proof of %s tells%s, %v", k, got, ok)
		}
		for _, to := range keys[i+1:] {
			proof := OfRange(r, []byte(k), []byte(to))
			if got, ok := read(r.Digest, k, to, proof); !ok || !bytes.Contains([]byte(got), []byte(k)) || !bytes.Contains([]byte(got), []byte(to)) {
				t.Errorf("P6: the proof of %s %s tells%s, %v", k, to, got, ok)
			}
		}
	}
}

// pageFrom gives the page that these bytes are, and whether they are one.
func pageFrom(b []byte) (p page.Page, ok bool) {
	defer func() {
		if gave := recover(); gave != nil && gave != any(noProof{}) {
			panic(gave)
		}
	}()
	return pageOf(b), true
}

// TestPagesFromBytes: pages come back as they were, and what is none makes the
// reader give up.
func TestPagesFromBytes(t *testing.T) {
	d := api.Digest{1, 2, 3, 4, 5, 6, 7, 8}
	for _, want := range []page.Page{
		{},
		{Entries: []page.Entry{{Key: []byte("a")}}},
		{Entries: []page.Entry{{Key: []byte("a"), Value: []byte("1")}, {Key: []byte("ab"), Value: make([]byte, 12)}}},
		{Level: 1, Entries: []page.Entry{{Key: []byte("a"), Digest: d}}},
		{Level: 6, Entries: []page.Entry{{Key: make([]byte, 12), Digest: d}, {Key: []byte("b"), Digest: d}}},
	} {
		b := want.Bytes()
		got, ok := pageFrom(b)
		if !ok || got.Level != want.Level || !bytes.Equal(got.Bytes(), b) {
			t.Errorf("P6: the page %v, %v, want %v", got, ok, want)
		}
		for i := range b {
			if got, ok := pageFrom(b[:i]); ok {
				t.Errorf("P6: %v is the page %v", b[:i], got)
			}
		}
		if got, ok := pageFrom(append(b, 0)); ok {
			t.Errorf("P6: %v with a byte behind is the page %v", b, got)
		}
	}
	for _, b := range [][]byte{
		{1, 0}, {6, 0}, {7, 1, 1, 97, 1, 2, 3, 4, 5, 6, 7, 8}, {0, 1, 0, 0}, {0, 2, 1, 97, 0, 1, 97, 0}, {0, 2, 1, 98, 0, 1, 97, 0},
		append(append([]byte{0, 1, 13}, make([]byte, 13)...), 0), append([]byte{0, 1, 1, 97, 13}, make([]byte, 13)...),
	} {
		if got, ok := pageFrom(b); ok {
			t.Errorf("P6: %v is the page %v", b, got)
		}
	}
}

// TestTakenBytesEnd: what is taken has no spare room in which others stand.
func TestTakenBytesEnd(t *testing.T) {
	r := reader{[]byte("abcdef")}
	if b := r.take(2); string(b) != "ab" || cap(b) != 2 || string(r.left) != "cdef" {
		t.Errorf("P2: took %q with room for %d, left %q", b, cap(b), r.left)
	}
	if b := r.take(0); len(b) != 0 || cap(b) != 0 {
		t.Errorf("P2: took %q with room for %d", b, cap(b))
	}
}

package page

import (
	"bytes"
	"testing"

	"cairn/api"
)

func TestBounds(t *testing.T) {
	for n := range 300 {
		b := make([]byte, n)
		if got, want := IsKey(b), n >= 1 && n <= 12; got != want {
			t.Errorf("P4: IsKey of %d bytes = %v", n, got)
		}
		if got, want := IsValue(b), n <= 12; got != want {
			t.Errorf("P4: IsValue of %d bytes = %v", n, got)
		}
	}
	if IsKey(nil) || !IsValue(nil) {
		t.Error("P1: nil is not as empty")
	}
}

func TestBytes(t *testing.T) {
	d := api.Digest{1, 2, 3, 4, 5, 6, 7, 8}
	full := bytes.Repeat([]byte{7}, 12)
	for _, c := range []struct {
		page Page
		want []byte
	}{
		{Page{}, []byte{0, 0}},
		{Page{Level: 0, Entries: []Entry{{Key: []byte("a"), Value: []byte("1")}}}, []byte{0, 1, 1, 97, 1, 49}},
		{Page{Level: 0, Entries: []Entry{{Key: []byte("a")}, {Key: []byte("ab"), Value: []byte{}}}}, []byte{0, 2, 1, 97, 0, 2, 97, 98, 0}},
		{Page{Level: 0, Entries: []Entry{{Key: full, Value: full}}}, []byte{0, 1, 12, 7, 7, 7, 7, 7, 7, 7, 7, 7, 7, 7, 7, 12, 7, 7, 7, 7, 7, 7, 7, 7, 7, 7, 7, 7}},
		{Page{Level: 1, Entries: []Entry{{Key: []byte("a"), Digest: d}, {Key: []byte("bc"), Digest: d}}}, []byte{1, 2, 1, 97, 1, 2, 3, 4, 5, 6, 7, 8, 2, 98, 99, 1, 2, 3, 4, 5, 6, 7, 8}},
		{Page{Level: 6, Entries: []Entry{{Key: []byte{0}, Digest: d}}}, []byte{6, 1, 1, 0, 1, 2, 3, 4, 5, 6, 7, 8}},
	} {
		if b := c.page.Bytes(); !bytes.Equal(b, c.want) {
			t.Errorf("P4: bytes of %v = %v, want %v", c.page, b, c.want)
		}
	}
}

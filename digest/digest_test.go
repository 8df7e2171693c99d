package digest

import (
	"bytes"
	"math/big"
	"testing"

	"cairn/api"
)

func number(s string) *big.Int {
	n, _ := new(big.Int).SetString(s, 10)
	return n
}

// model reckons the digest by whole numbers, as the document words it.
func model(b []byte) api.Digest {
	modulus := new(big.Int).Lsh(big.NewInt(1), 64)
	n := number("14695981039346656037")
	for _, c := range b {
		n.Xor(n, big.NewInt(int64(c)))
		n.Mul(n, number("1099511628211"))
		n.Mod(n, modulus)
	}
	n.Xor(n, new(big.Int).Rsh(n, 32))
	n.Mul(n, number("11400714819323198485"))
	n.Mod(n, modulus)
	n.Xor(n, new(big.Int).Rsh(n, 29))
	var d api.Digest
	n.FillBytes(d[:])
	return d
}

func TestExamples(t *testing.T) {
	for _, c := range []struct {
		b    string
		want api.Digest
	}{
		{"", api.Digest{133, 112, 226, 80, 254, 76, 36, 115}},
		{"a", api.Digest{130, 177, 157, 152, 89, 166, 19, 34}},
		{"\x00\x00", api.Digest{6, 81, 203, 64, 27, 87, 4, 51}},
		{"\x00\x01\x01a\x011", api.Digest{52, 151, 33, 55, 137, 3, 245, 148}},
	} {
		if d := Of([]byte(c.b)); d != c.want {
			t.Errorf("P3: Of(%q) = %v, want %v", c.b, d, c.want)
		}
	}
}

func TestAgainstModel(t *testing.T) {
	var lists [][]byte
	for c := range 256 {
		lists = append(lists, []byte{byte(c)}, bytes.Repeat([]byte{byte(c)}, c))
	}
	lists = append(lists, make([]byte, 4099), bytes.Repeat([]byte{255}, 4099))
	for _, b := range lists {
		if d, want := Of(b), model(b); d != want {
			t.Errorf("P3: Of(%v) = %v, want %v", b, d, want)
		}
	}
}

func TestNilIsEmpty(t *testing.T) {
	if Of(nil) != Of([]byte{}) {
		t.Error("P1: nil and empty have two digests")
	}
}

package tree

import (
	"bytes"
	"fmt"
	"testing"

	"cairn/api"
	"cairn/digest"
	"cairn/page"
)

// entries gives entries from keys and values in turn.
func entries(l ...string) []page.Entry {
	var all []page.Entry
	for i := 0; i < len(l); i += 2 {
		all = append(all, page.Entry{Key: []byte(l[i]), Value: []byte(l[i+1])})
	}
	return all
}

func numbered(n int) []page.Entry {
	var all []page.Entry
	for i := range n {
		all = append(all, page.Entry{Key: fmt.Appendf(nil, "%02d", i), Value: fmt.Appendf(nil, "v%d", i)})
	}
	return all
}

func count(k *Known) int {
	n := 0
	for _, nodes := range k.nodes {
		n += len(nodes)
	}
	return n
}

func TestNoEntries(t *testing.T) {
	n := new(Known).Tree(nil)
	if !bytes.Equal(n.Bytes, []byte{0, 0}) || n.Digest != digest.Of([]byte{0, 0}) || len(n.Below) != 0 {
		t.Errorf("P4: the tree of nothing is %v", n)
	}
}

func TestOnePage(t *testing.T) {
	// no key but the last one is an end on the level 0
	n := new(Known).Tree(entries("a", "1", "b", "", "h", "3"))
	want := []byte{0, 3, 1, 'a', 1, '1', 1, 'b', 0, 1, 'h', 1, '3'}
	if !bytes.Equal(n.Bytes, want) || n.Digest != digest.Of(want) || len(n.Below) != 0 {
		t.Errorf("P4: the tree is %v, want the page %v", n, want)
	}
}

func TestRoots(t *testing.T) {
	for _, c := range []struct {
		what    string
		entries []page.Entry
		level   byte
		want    api.Digest
	}{
		{"two pages, keys of all kinds of bytes", entries("\x00", string(make([]byte, 12)), "\x00\xff", "", "\x7f", "x", "\x80", "y", "\xff\xff\xff\xff\xff\xff\xff\xff\xff\xff\xff\xff", "\xff\xff\xff\xff\xff\xff\xff\xff\xff\xff\xff\xff"), 1, api.Digest{225, 4, 248, 28, 107, 88, 186, 161}},
		{"an end on all levels that have ends", entries("acwi", "1", "zzzzz", "2"), 6, api.Digest{71, 107, 167, 209, 217, 188, 254, 175}},
		{"one that would be an end on the highest level too", entries("aqbr", "1", "zzzzz", "2"), 6, api.Digest{39, 77, 205, 252, 208, 113, 17, 171}},
		{"as many entries as there may be", numbered(60), 6, api.Digest{106, 217, 197, 100, 113, 166, 67, 135}},
	} {
		n := new(Known).Tree(c.entries)
		if n.Bytes[0] != c.level || n.Digest != c.want {
			t.Errorf("P4: %s: level %d, root %v, want %d, %v", c.what, n.Bytes[0], n.Digest, c.level, c.want)
		}
	}
}

// sound fails if a node's page does not say what stands below it.
func sound(t *testing.T, n *Node) {
	t.Helper()
	if n.Digest != digest.Of(n.Bytes) {
		t.Errorf("P4: page %v has the digest %v", n.Bytes, n.Digest)
	}
	if n.Bytes[0] == 0 {
		if len(n.Below) != 0 {
			t.Errorf("P4: below the page %v of level 0 are %d", n.Bytes, len(n.Below))
		}
		return
	}
	want := page.Page{Level: int(n.Bytes[0])}
	for _, b := range n.Below {
		if b.Bytes[0] != n.Bytes[0]-1 {
			t.Errorf("P4: below the level %d stands the level %d", n.Bytes[0], b.Bytes[0])
		}
		want.Entries = append(want.Entries, page.Entry{Key: b.Last, Digest: b.Digest})
		sound(t, b)
	}
	if !bytes.Equal(n.Bytes, want.Bytes()) || !bytes.Equal(n.Last, n.Below[len(n.Below)-1].Last) {
		t.Errorf("P4: page %v, want %v", n.Bytes, want.Bytes())
	}
}

func TestNodesAreSound(t *testing.T) {
	var k Known
	for n := range 61 {
		sound(t, k.Tree(numbered(n)))
	}
}

func TestKnownPagesAreShared(t *testing.T) {
	var k Known
	first := k.Tree(numbered(60))
	made := count(&k)
	if k.Tree(numbered(60)) != first || count(&k) != made {
		t.Error("P4: the same tree again made new pages")
	}
	changed := numbered(60)
	changed[59].Value = []byte("else")
	if k.Tree(changed) == first {
		t.Error("P4: another tree has the same root page")
	}
	if more := count(&k) - made; more > api.MaxLevel+1 {
		t.Errorf("P4: one other value made %d pages", more)
	}
}

// Two values that give the pages of the key `h` alone one digest: `h` is an end
// on the level 0.
var (
	oneValue   = string([]byte{96, 231, 30, 39, 67, 117, 173, 226, 247, 56, 25, 170})
	otherValue = string([]byte{160, 27, 213, 17, 81, 176, 142, 95, 168, 142, 136, 130})
)

func TestUnlikePagesOfOneDigest(t *testing.T) {
	var k Known
	one, other := k.Tree(entries("h", oneValue)), k.Tree(entries("h", otherValue))
	if one.Digest != other.Digest {
		t.Fatalf("P4: the digests are %v and %v", one.Digest, other.Digest)
	}
	if bytes.Equal(one.Bytes, other.Bytes) {
		t.Error("P4: two unlike pages have become one")
	}
	if k.Tree(entries("h", oneValue)) != one || k.Tree(entries("h", otherValue)) != other {
		t.Error("P4: a page that is known was made again")
	}
}

func TestAbovePagesOfOneDigest(t *testing.T) {
	var k Known
	one, other := k.Tree(entries("h", oneValue, "z", "")), k.Tree(entries("h", otherValue, "z", ""))
	if !bytes.Equal(one.Bytes, other.Bytes) {
		t.Fatalf("P4: the root pages are %v and %v", one.Bytes, other.Bytes)
	}
	for _, c := range []struct {
		root  *Node
		value string
	}{{one, oneValue}, {other, otherValue}} {
		want := page.Page{Entries: entries("h", c.value)}.Bytes()
		if b := c.root.Below[0].Bytes; !bytes.Equal(b, want) {
			t.Errorf("P4: below stands the page %v, want %v", b, want)
		}
	}
	if one.Below[1] != other.Below[1] {
		t.Error("P4: the page of `z` was made twice")
	}
}

package cairn_test

import (
	"bytes"
	"fmt"
	"math/rand/v2"
	"slices"
	"strings"
	"testing"

	"cairn/api"
	"cairn/cairn"
)

func digestOf(p *modelPage) api.Digest { return modelDigest([]byte(p.bytes)) }

// leaf gives a page of level 0 with these keys, each with a value of its own.
func leaf(keys string) *modelPage {
	var l []modelEntry
	for _, k := range strings.Fields(keys) {
		l = append(l, modelEntry{key: k, with: string([]byte{byte(len(k) + 1)}) + k + "!"})
	}
	return newPage(0, l)
}

// over gives a page with an entry for each page below, with these keys.
func over(level int, keys string, below ...*modelPage) *modelPage {
	var l []modelEntry
	for i, k := range strings.Fields(keys) {
		l = append(l, standsFor(k, below[i]))
	}
	return newPage(level, l)
}

func TestCheckExamples(t *testing.T) {
	s := cairn.New()
	s.Put([]byte("a"), []byte("1"))
	c, _ := s.Commit()
	p, _ := s.Prove(0, []byte("a"))
	if a, e := cairn.Check(c.Root, []byte("a"), p); e != api.OK || !a.Found || string(a.Value) != "1" {
		t.Errorf("P6: Check of a = %v, %d", a, e)
	}
	if a, e := cairn.Check(c.Root, []byte("b"), p); e != api.OK || a.Found || a.Value != nil {
		t.Errorf("P6: Check of b = %v, %d", a, e)
	}
	if l, e := cairn.CheckRange(c.Root, []byte("a"), []byte("b"), p); e != api.OK || !sameEntries(l, []api.Entry{entry("a", "1")}) {
		t.Errorf("P6: CheckRange of a b = %q, %d", l, e)
	}
	for i := range p {
		for x := 1; x < 256; x++ {
			q := slices.Clone(p)
			q[i] ^= byte(x)
			falls(t, c.Root, "a", "", string(q))
			falls(t, c.Root, "b", "", string(q))
			falls(t, c.Root, "a", "b", string(q))
		}
	}
}

// falls fails unless these bytes are refused as the proof of a range, or of a
// key if to is empty.
func falls(t *testing.T, root api.Digest, from, to, proof string) {
	t.Helper()
	if to == "" {
		if a, e := cairn.Check(root, []byte(from), []byte(proof)); e != api.ErrProof || a.Found || a.Value != nil {
			t.Errorf("P6: Check(%v, %q, %v) = %v, %d", root, from, []byte(proof), a, e)
		}
	} else if l, e := cairn.CheckRange(root, []byte(from), []byte(to), []byte(proof)); e != api.ErrProof || l != nil {
		t.Errorf("P6: CheckRange(%v, %q, %q, %v) = %q, %d", root, from, to, []byte(proof), l, e)
	}
}

// holds fails unless these bytes are taken as the proof of a range, or of a key
// if to is empty, and tell these keys, with the values that leaf gives them.
func holds(t *testing.T, root *modelPage, from, to, proof, keys string) {
	t.Helper()
	var want []api.Entry
	for _, k := range strings.Fields(keys) {
		want = append(want, entry(k, k+"!"))
	}
	var got []api.Entry
	var e api.Errno
	if to == "" {
		var a api.Answer
		if a, e = cairn.Check(digestOf(root), []byte(from), []byte(proof)); a.Found {
			got = append(got, entry(from, string(a.Value)))
		}
	} else {
		got, e = cairn.CheckRange(digestOf(root), []byte(from), []byte(to), []byte(proof))
	}
	if e != api.OK || !sameEntries(got, want) {
		t.Errorf("P6: %q %q by %v = %q, %d, want %q", from, to, []byte(proof), got, e, want)
	}
}

func TestErrArgIsFirst(t *testing.T) {
	x := leaf("b c")
	for _, proof := range []string{"", "\x00", x.counted(), x.counted() + "\x00"} {
		for _, n := range []int{0, 13, 14, 255, 256, 257, 268, 70000} {
			k := strings.Repeat("b", n)
			if e := check(t, digestOf(x), k, proof); e != api.ErrArg {
				t.Errorf("P6: Check of a key of %d bytes = %d", n, e)
			}
			for _, r := range [][2]string{{k, "c"}, {"a", k}, {k, k}} {
				if e := checkRange(t, digestOf(x), r[0], r[1], proof); e != api.ErrArg {
					t.Errorf("P6: CheckRange of %q = %d", r, e)
				}
			}
		}
		for _, r := range [][2]string{{"b", "b"}, {"c", "b"}, {"bb", "b"}, {"b\x00", "b"}, {"c", "bb"}, {"\x80", "\x7f"}, {"", ""}} {
			if e := checkRange(t, digestOf(x), r[0], r[1], proof); e != api.ErrArg {
				t.Errorf("P6: CheckRange of %q = %d", r, e)
			}
		}
	}
	a, e := cairn.Check(digestOf(x), nil, nil)
	l, f := cairn.CheckRange(digestOf(x), nil, nil, nil)
	if e != api.ErrArg || a.Found || a.Value != nil || f != api.ErrArg || l != nil {
		t.Errorf("P6: with nil: %v, %d and %v, %d", a, e, l, f)
	}
}

func TestKeysOfAllLengthsAreChecked(t *testing.T) {
	for n := 1; n <= 12; n++ {
		k := strings.Repeat("k", n)
		x := newPage(0, []modelEntry{{key: k, with: "\x01v"}})
		if a, e := cairn.Check(digestOf(x), []byte(k), []byte(x.counted())); e != api.OK || !a.Found || string(a.Value) != "v" {
			t.Errorf("P6: Check of %q = %v, %d", k, a, e)
		}
		l, e := cairn.CheckRange(digestOf(x), []byte(k), []byte("l"), []byte(x.counted()))
		if e != api.OK || !sameEntries(l, []api.Entry{entry(k, "v")}) {
			t.Errorf("P6: CheckRange of %q = %q, %d", k, l, e)
		}
		l, e = cairn.CheckRange(digestOf(x), []byte("a"), []byte(k), []byte(x.counted()))
		if e != api.OK || len(l) != 0 {
			t.Errorf("P6: CheckRange to %q = %q, %d", k, l, e)
		}
	}
}

// TestEmptyValues: a key with a value of no bytes is found.
func TestEmptyValues(t *testing.T) {
	s := cairn.New()
	s.Put([]byte("a"), nil)
	c, _ := s.Commit()
	p, _ := s.Prove(0, []byte("a"))
	if a, e := cairn.Check(c.Root, []byte("a"), p); e != api.OK || !a.Found || len(a.Value) != 0 {
		t.Errorf("P6: Check = %v, %d", a, e)
	}
	if l, e := cairn.CheckRange(c.Root, []byte("a"), []byte("b"), p); e != api.OK || !sameEntries(l, []api.Entry{entry("a", "")}) {
		t.Errorf("P6: CheckRange = %q, %d", l, e)
	}
}

func TestProofsBesideOneAnother(t *testing.T) {
	x, y, z := leaf("b c"), leaf("e f"), leaf("h i")
	one := over(1, "c f i", x, y, z)
	for _, c := range []struct {
		from, to string
		pages    []*modelPage
		keys     string
	}{
		{"a", "", []*modelPage{one, x}, ""}, {"b", "", []*modelPage{one, x}, "b"}, {"bb", "", []*modelPage{one, x}, ""},
		{"c", "", []*modelPage{one, x}, "c"}, {"c\x00", "", []*modelPage{one, y}, ""}, {"e", "", []*modelPage{one, y}, "e"},
		{"f", "", []*modelPage{one, y}, "f"}, {"i", "", []*modelPage{one, z}, "i"}, {"i\x00", "", []*modelPage{one}, ""},
		{"a", "z", []*modelPage{one, x, y, z}, "b c e f h i"}, {"c", "h", []*modelPage{one, x, y, z}, "c e f"},
		{"c", "f", []*modelPage{one, x, y}, "c e"}, {"b", "c", []*modelPage{one, x}, "b"}, {"b", "c\x00", []*modelPage{one, x, y}, "b c"},
		{"a", "b", []*modelPage{one, x}, ""}, {"d", "e", []*modelPage{one, y}, ""}, {"i", "j", []*modelPage{one, z}, "i"},
		{"i\x00", "j", []*modelPage{one}, ""},
	} {
		proof := proofOf(c.pages)
		holds(t, one, c.from, c.to, proof, c.keys)
		for _, l := range [][]*modelPage{nil, {x}, {one}, {one, x}, {one, y}, {one, z}, {one, x, y}, {one, y, z}, {one, x, z}, {one, y, x}, {one, x, y, z}, {one, x, z, y}, {one, z, y, x}, {x, one}, {one, one}, {one, x, x}} {
			if proofOf(l) != proof {
				falls(t, digestOf(one), c.from, c.to, proofOf(l))
			}
		}
	}
}

// TestOrderOfPages: behind a page stands what belongs to it, ahead of the next.
func TestOrderOfPages(t *testing.T) {
	x, y, z := leaf("b c"), leaf("e f"), leaf("h i")
	left, right := over(1, "c f", x, y), over(1, "i", z)
	top := over(2, "f i", left, right)
	holds(t, top, "b", "i", proofOf([]*modelPage{top, left, x, y, right, z}), "b c e f h")
	falls(t, digestOf(top), "b", "i", proofOf([]*modelPage{top, left, right, x, y, z}))
	falls(t, digestOf(top), "b", "i", proofOf([]*modelPage{top, right, z, left, x, y}))
	falls(t, digestOf(top), "b", "i", proofOf([]*modelPage{x, y, left, z, right, top}))
	holds(t, top, "d", "f", proofOf([]*modelPage{top, left, y}), "e")
	holds(t, top, "e", "g", proofOf([]*modelPage{top, left, y, right, z}), "e f")
}

// split parts a proof into its pages, with the numbers of their bytes.
func split(proof string) []string {
	var l []string
	for proof != "" {
		n := 2 + int(proof[0])*256 + int(proof[1])
		l = append(l, proof[:n])
		proof = proof[n:]
	}
	return l
}

// spoiltBytes gives a proof with a byte turned, taken out or put in anywhere,
// cut anywhere, and with bytes behind it.
func spoiltBytes(proof string) []string {
	l := []string{"", proof + proof}
	for i := range proof {
		for _, x := range []byte{1, 2, 4, 8, 16, 32, 64, 128, 255} {
			l = append(l, proof[:i]+string([]byte{proof[i] ^ x})+proof[i+1:])
		}
		for _, x := range []byte{0, 1, 2, 12, 255, proof[i]} {
			l = append(l, proof[:i]+string([]byte{x})+proof[i:])
		}
		l = append(l, proof[:i]+proof[i+1:], proof[:i], proof[i+1:])
	}
	for _, b := range []string{"\x00", "\x01", "\xff", "\x00\x00", "\x00\x01\x00", "\x00\x02\x00\x00"} {
		l = append(l, proof+b, b+proof)
	}
	return l
}

// spoiltPages gives a proof with pages left out, doubled, changed about or put
// in. Where two pages are the same, some of them are the proof itself.
func spoiltPages(proof string) []string {
	pages := split(proof)
	some := func(l ...[]string) string { return strings.Join(slices.Concat(l...), "") }
	var l []string
	for i, p := range pages {
		l = append(l, some(pages[:i], pages[i+1:]), some(pages[:i], pages[i:i+1], pages[i:]), some(pages, pages[i:i+1]))
		l = append(l, some(pages[:i], []string{"\x00\x02\x00\x00"}, pages[i:]), some(pages[:i], []string{"\x00\x00"}, pages[i:]))
		for j := range i {
			changed := slices.Clone(pages)
			changed[i], changed[j] = changed[j], p
			l = append(l, some(changed), some(pages[:j], pages[i:i+1], pages[j:i], pages[i+1:]), some(pages[:j], pages[i:]))
		}
	}
	return l
}

// fallsSpoilt fails unless a proof of a range, or of a key if to is empty, is
// taken, and refused when it is spoilt.
func fallsSpoilt(t *testing.T, root api.Digest, from, to, proof string) {
	t.Helper()
	e := check(t, root, from, proof)
	if to != "" {
		e = checkRange(t, root, from, to, proof)
	}
	if e != api.OK {
		t.Errorf("P6: the proof %v of %q %q: %d", []byte(proof), from, to, e)
	}
	for _, q := range slices.Concat(spoiltBytes(proof), spoiltPages(proof)) {
		if q != proof {
			falls(t, root, from, to, q)
		}
	}
}

// TestSpoiltProofs: of stores, in trees of all levels.
func TestSpoiltProofs(t *testing.T) {
	for level, k := range []string{"a", "h", "af", "y", "afp", "yf", "acwi", "aqbr"} {
		b := newBoth(t)
		b.put([]byte(k), []byte("1"))
		b.put([]byte("zzzzz"), nil)
		b.commit()
		p := b.m.trees[0]
		if got := p.level(); got != min(level, 6) {
			t.Errorf("P6: the root page of %s is of level %d", k, got)
		}
		for _, key := range []string{"A", k, k + "\x00", "zzzzz", "zzzzzz"} {
			fallsSpoilt(t, b.m.roots[0], key, "", proofOf(p.pagesOfKey(key)))
		}
		for _, r := range [][2]string{{"A", "zzzzzz"}, {k, k + "\x00"}, {"A", k}, {k, "zzzzz"}, {"zzzzzz", "{"}} {
			fallsSpoilt(t, b.m.roots[0], r[0], r[1], proofOf(p.pagesOfRange(r[0], r[1])))
		}
	}
}

func TestSpoiltProofsOfAFullStore(t *testing.T) {
	b := newBoth(t)
	fill(b, 60)
	b.commit()
	p := b.m.trees[0]
	for _, key := range []string{"0", "00", "17", "30", "300", "59", "6"} {
		fallsSpoilt(t, b.m.roots[0], key, "", proofOf(p.pagesOfKey(key)))
	}
	for _, r := range [][2]string{{"0", "9"}, {"17", "42"}, {"30", "31"}} {
		fallsSpoilt(t, b.m.roots[0], r[0], r[1], proofOf(p.pagesOfRange(r[0], r[1])))
	}
}

// TestOtherProofs: those of other keys and ranges, of one root, hold just where
// they are the same bytes.
func TestOtherProofs(t *testing.T) {
	b := newBoth(t)
	fill(b, 60)
	b.commit()
	p, root := b.m.trees[0], b.m.roots[0]
	all := []string{"9"}
	for _, k := range around(b.m) {
		all = append(all, string(k))
	}
	slices.Sort(all)
	var given []string
	for i, k := range all {
		given = append(given, proofOf(p.pagesOfKey(k)))
		for j := i + 1; j < len(all); j += 11 {
			given = append(given, proofOf(p.pagesOfRange(k, all[j])))
		}
	}
	slices.Sort(given)
	given = slices.Compact(given)
	same := func(e api.Errno, own, other string) {
		t.Helper()
		if (e == api.OK) != (own == other) || e != api.OK && e != api.ErrProof {
			t.Errorf("P6: by %v, where the proof is %v: %d", []byte(other), []byte(own), e)
		}
	}
	for i, k := range all {
		to := all[min(i+1+i%7, len(all)-1)]
		for _, q := range given {
			_, e := cairn.Check(root, []byte(k), []byte(q))
			same(e, proofOf(p.pagesOfKey(k)), q)
			if k < to {
				_, e = cairn.CheckRange(root, []byte(k), []byte(to), []byte(q))
				same(e, proofOf(p.pagesOfRange(k, to)), q)
			}
		}
	}
}

func TestOtherRoots(t *testing.T) {
	b := newBoth(t)
	for i := range 60 {
		b.put(key(i), key(i))
		if i%5 == 0 {
			b.commit()
		}
	}
	for epoch, root := range b.m.roots {
		proof, _ := b.m.prove(epoch, key(3))
		wide, _ := b.m.proveRange(epoch, key(3), key(40))
		roots := slices.Concat(b.m.roots[:epoch], b.m.roots[epoch+1:], []api.Digest{{}})
		for i := range 64 {
			turned := root
			turned[i/8] ^= 1 << (i % 8)
			roots = append(roots, turned)
		}
		for _, p := range split(wide)[1:] {
			roots = append(roots, modelDigest([]byte(p[2:])))
		}
		roots = append(roots, modelDigest([]byte(proof)), modelDigest([]byte(wide)))
		for _, r := range roots {
			falls(t, r, string(key(3)), "", proof)
			falls(t, r, string(key(3)), string(key(40)), wide)
		}
	}
}

// counts gives a list with the number of its bytes ahead.
func counts(b string) string { return string([]byte{byte(len(b))}) + b }

// asPage fails unless bytes are taken, or not, as a page: as the root page, and
// as the first and the last of two below a page. Their keys are all less than
// what is asked for, so that no page is behind them.
func asPage(t *testing.T, b string, want bool) {
	t.Helper()
	const from, to, behind = "\xff\xff", "\xff\xff\xff", "\xff\xff\xff\xff"
	p := &modelPage{bytes: b}
	holding := func(root *modelPage, l ...*modelPage) {
		t.Helper()
		e := checkRange(t, digestOf(root), from, to, proofOf(l))
		if f := check(t, digestOf(root), from, proofOf(l[:min(len(l), 2)])); len(l) <= 2 && f != e {
			t.Errorf("P6: %v: Check = %d, CheckRange = %d", []byte(b), f, e)
		}
		if want && e != api.OK || !want && e != api.ErrProof {
			t.Errorf("P6: %v is taken as a page: %d, want %v", []byte(b), e, want)
		}
	}
	holding(p, p)
	level := 0
	if b != "" {
		level = p.level()
	}
	if level >= api.MaxLevel {
		return
	}
	beside := newPage(level, []modelEntry{{key: "x", with: "\x07fitting"}})
	one := newPage(level+1, []modelEntry{standsFor(to, p)})
	holding(one, one, p)
	first := newPage(level+1, []modelEntry{standsFor(from, p), standsFor(behind, beside)})
	holding(first, first, p, beside)
	last := newPage(level+1, []modelEntry{standsFor(from, beside), standsFor(behind, p)})
	holding(last, last, beside, p)
}

func TestLevelsOfPages(t *testing.T) {
	asPage(t, "\x00\x01\x01b\x00", true)
	for level := 1; level < 256; level++ {
		asPage(t, string([]byte{byte(level), 1, 1, 'b'})+"a digest", level <= 6)
		asPage(t, string([]byte{byte(level), 1, 1, 'b'})+"\x07a value", level <= 6)
		asPage(t, string([]byte{byte(level), 1, 1, 'b', 0}), false)
		asPage(t, string([]byte{byte(level), 0}), false)
	}
	asPage(t, "\x00\x00", true)
	asPage(t, "\x00\x01\x01ba digest", false)
}

// TestNumbersOfEntries: up to 60, above the level 0 at least one, and as many
// as the page says.
func TestNumbersOfEntries(t *testing.T) {
	for _, level := range []int{0, 1, 3, 6} {
		for n := range 255 {
			var entries []string
			for i := range n {
				with := "a digest"
				if level == 0 {
					with = "\x02vv"
				}
				entries = append(entries, "\x01"+string([]byte{byte(i)})+with)
			}
			head := func(n int) string { return string([]byte{byte(level), byte(n)}) }
			b := strings.Join(entries, "")
			asPage(t, head(n)+b, n <= 60 && (n > 0 || level == 0))
			asPage(t, head(n+1)+b, false)
			if n > 0 {
				asPage(t, head(n-1)+b, false)
			}
		}
	}
}

func TestKeysAndValuesInPages(t *testing.T) {
	for n := range 256 {
		long := counts(strings.Repeat("k", n))
		asPage(t, "\x00\x01"+long+"\x01v", n >= 1 && n <= 12)
		asPage(t, "\x01\x01"+long+"a digest", n >= 1 && n <= 12)
		asPage(t, "\x06\x01"+long+"a digest", n >= 1 && n <= 12)
		asPage(t, "\x00\x02\x01a\x00"+long+"\x00", n >= 1 && n <= 12)
		asPage(t, "\x00\x01\x01k"+long, n <= 12)
		asPage(t, "\x00\x02\x01k"+long+"\x01l\x00", n <= 12)
	}
}

func TestKeysInPagesRise(t *testing.T) {
	for _, c := range []struct {
		keys []string
		want bool
	}{
		{[]string{"a", "b"}, true}, {[]string{"a", "ab"}, true}, {[]string{"a", "a\x00"}, true}, {[]string{"ab", "b"}, true},
		{[]string{"\x00", "\x00\x00"}, true}, {[]string{"\x7f", "\x80"}, true}, {[]string{"a", "b", "c"}, true}, {[]string{"\x00"}, true},
		{[]string{"a", "a"}, false}, {[]string{"b", "a"}, false}, {[]string{"ab", "a"}, false}, {[]string{"a\x00", "a"}, false},
		{[]string{"b", "ab"}, false}, {[]string{"\x00", "\x00"}, false}, {[]string{"\x80", "\x7f"}, false}, {[]string{"a", "c", "b"}, false},
		{[]string{"b", "c", "a"}, false}, {[]string{"b", "a", "c"}, false}, {[]string{"a", "b", "b"}, false}, {[]string{"a", "b", "a"}, false},
		{[]string{"a", "bb", "b"}, false}, {[]string{"abcdefghijkl", "abcdefghijkm"}, true}, {[]string{"abcdefghijkm", "abcdefghijkl"}, false},
	} {
		for level := range 7 {
			b := string([]byte{byte(level), byte(len(c.keys))})
			for _, k := range c.keys {
				b += counts(k)
				if level == 0 {
					b += "\x01v"
				} else {
					b += "a digest"
				}
			}
			asPage(t, b, c.want)
		}
	}
}

// TestBytesOfPages: none may be missing, none left over.
func TestBytesOfPages(t *testing.T) {
	for _, p := range []*modelPage{leaf(""), leaf("b"), leaf("b cc ddd"), over(1, "b", leaf("b")), over(6, "b cc", leaf("b"), leaf("c"))} {
		asPage(t, p.bytes, true)
		for i := range p.bytes {
			asPage(t, p.bytes[:i], false)
		}
		for x := range 256 {
			asPage(t, p.bytes+string([]byte{byte(x)}), false)
		}
		asPage(t, p.bytes+p.bytes, false)
		for _, n := range []int{254, 255, 256, 257, 1562, 65535} {
			asPage(t, p.bytes+strings.Repeat("\x00", n-len(p.bytes)), false)
		}
	}
}

// TestGreatPages: the number of a page's bytes takes two bytes.
func TestGreatPages(t *testing.T) {
	low, high := []modelEntry{}, []modelEntry{}
	for i := range 60 {
		k := fmt.Sprintf("key %08d", i)
		low = append(low, modelEntry{key: k, with: counts(k)})
		high = append(high, modelEntry{key: k, with: "a digest"})
	}
	for n := 1; n <= 60; n++ {
		asPage(t, newPage(0, low[:n]).bytes, true)
		asPage(t, newPage(5, high[:n]).bytes, true)
	}
	p := newPage(0, low)
	if a, e := cairn.Check(digestOf(p), []byte("key 00000059"), []byte(p.counted())); e != api.OK || string(a.Value) != "key 00000059" {
		t.Errorf("P6: Check in the greatest page = %v, %d", a, e)
	}
	turned := p.counted()[1:2] + p.counted()[:1] + p.bytes
	falls(t, digestOf(p), "a", "", turned)
}

// TestLevelsBelow: the level of a page is just below that of the page whose
// entry stands for it.
func TestLevelsBelow(t *testing.T) {
	for level := 1; level <= 6; level++ {
		for below := range 7 {
			p := newPage(below, []modelEntry{{key: "b", with: "\x07fitting"}})
			root := over(level, "y", p)
			proof := proofOf([]*modelPage{root, p})
			if e := check(t, digestOf(root), "x", proof); (e == api.OK) != (below == level-1) {
				t.Errorf("P6: Check of a page of level %d below one of level %d = %d", below, level, e)
			}
			if e := checkRange(t, digestOf(root), "x", "z", proof); (e == api.OK) != (below == level-1) {
				t.Errorf("P6: CheckRange of a page of level %d below one of level %d = %d", below, level, e)
			}
		}
	}
}

// TestWhatIsNotAsked: pages that no store would make, but that are pages.
func TestWhatIsNotAsked(t *testing.T) {
	// h is an end on the level 0, and b is none
	middle := leaf("b h i")
	holds(t, middle, "h", "", middle.counted(), "h")
	holds(t, middle, "i", "", middle.counted(), "i")
	holds(t, middle, "b", "z", middle.counted(), "b h i")
	early := over(1, "b i", leaf("b"), leaf("i"))
	holds(t, early, "i", "", proofOf([]*modelPage{early, leaf("i")}), "i")
	holds(t, early, "b", "z", proofOf([]*modelPage{early, leaf("b"), leaf("i")}), "b i")

	// an entry's key is greater than the last one of its page
	x, none := leaf("b c"), leaf("")
	greater := over(1, "m", x)
	holds(t, greater, "c", "", proofOf([]*modelPage{greater, x}), "c")
	holds(t, greater, "m", "", proofOf([]*modelPage{greater, x}), "")
	holds(t, greater, "m", "z", proofOf([]*modelPage{greater, x}), "")
	holds(t, greater, "n", "", greater.counted(), "")
	falls(t, digestOf(greater), "n", "", proofOf([]*modelPage{greater, x}))

	// and less: then the page does not belong to the proof of its last key
	less := over(1, "a", x)
	holds(t, less, "a", "", proofOf([]*modelPage{less, x}), "")
	holds(t, less, "b", "", less.counted(), "")
	holds(t, less, "a", "z", proofOf([]*modelPage{less, x}), "b c")
	holds(t, less, "a", "c", proofOf([]*modelPage{less, x}), "b")
	holds(t, less, "b", "z", less.counted(), "")
	falls(t, digestOf(less), "b", "", proofOf([]*modelPage{less, x}))

	// an empty page below another, and one entry alone above
	empty := over(2, "d", over(1, "c", none))
	holds(t, empty, "b", "", proofOf([]*modelPage{empty, over(1, "c", none), none}), "")
	holds(t, empty, "a", "z", proofOf([]*modelPage{empty, over(1, "c", none), none}), "")
	holds(t, empty, "d", "", proofOf([]*modelPage{empty, over(1, "c", none)}), "")
}

// TestKeysOfUnlikePages: those of the pages need not rise from one to the next,
// and one page may stand in several places; the entries come in its order.
func TestKeysOfUnlikePages(t *testing.T) {
	x, y := leaf("b h"), leaf("c d m")
	crossed := over(1, "m p", y, x)
	holds(t, crossed, "a", "z", proofOf([]*modelPage{crossed, y, x}), "c d m b h")
	holds(t, crossed, "c", "i", proofOf([]*modelPage{crossed, y}), "c d")
	holds(t, crossed, "b", "", proofOf([]*modelPage{crossed, y}), "")
	holds(t, crossed, "n", "", proofOf([]*modelPage{crossed, x}), "")
	twice := over(1, "h k t", x, x, x)
	holds(t, twice, "a", "z", proofOf([]*modelPage{twice, x, x, x}), "b h b h b h")
	holds(t, twice, "b", "", proofOf([]*modelPage{twice, x}), "b")
	falls(t, digestOf(twice), "a", "z", proofOf([]*modelPage{twice, x}))
	falls(t, digestOf(twice), "a", "z", proofOf([]*modelPage{twice, x, x}))
	falls(t, digestOf(twice), "a", "z", proofOf([]*modelPage{twice, x, x, x, x}))
}

// TestManyEntriesInRange: more than a store has room for.
func TestManyEntriesInRange(t *testing.T) {
	var below []modelEntry
	pages := []*modelPage{nil}
	keys := ""
	for i := range 60 {
		some := ""
		for j := range 60 {
			some += fmt.Sprintf(" %02d-%02d", i, j)
		}
		pages = append(pages, leaf(some))
		below = append(below, standsFor(fmt.Sprintf("%02d-59", i), leaf(some)))
		keys += some
	}
	pages[0] = newPage(1, below)
	holds(t, pages[0], "0", "9", proofOf(pages), keys)
	holds(t, pages[0], "30-00", "30-59", proofOf([]*modelPage{pages[0], pages[31]}), keys[6*60*30:6*60*31-6])
}

// TestUnlikePagesAreTaken: P9, two of one digest, each where the other is, and
// it tells its own.
func TestUnlikePagesAreTaken(t *testing.T) {
	one := newPage(0, []modelEntry{{key: "h", with: counts("\x60\xe7\x1e\x27\x43\x75\xad\xe2\xf7\x38\x19\xaa")}})
	other := newPage(0, []modelEntry{{key: "h", with: counts("\xa0\x1b\xd5\x11\x51\xb0\x8e\x5f\xa8\x8e\x88\x82")}})
	root := over(1, "h", one)
	for _, p := range []*modelPage{one, other} {
		for _, l := range [][]*modelPage{{p}, {root, p}} {
			d := digestOf(l[0])
			if d != digestOf(one) && d != digestOf(root) {
				t.Errorf("P9: the digest is %v", d)
			}
			want := p.entries[0].with[1:]
			if a, e := cairn.Check(d, []byte("h"), []byte(proofOf(l))); e != api.OK || string(a.Value) != want {
				t.Errorf("P9: Check = %v, %d, want %q", a, e, want)
			}
			got, e := cairn.CheckRange(d, []byte("h"), []byte("i"), []byte(proofOf(l)))
			if e != api.OK || !sameEntries(got, []api.Entry{entry("h", want)}) {
				t.Errorf("P9: CheckRange = %q, %d, want %q", got, e, want)
			}
		}
	}
}

// somePage gives a page with what is below it, now and then such as no proof
// may have.
func somePage(r *rand.Rand, level int) *modelPage {
	var keys []string
	for range r.IntN(4) + min(level, 1) {
		keys = append(keys, string(append(someBytes(r, 2), byte('a'+r.IntN(4)))))
	}
	if r.IntN(40) > 0 {
		slices.Sort(keys)
		keys = slices.Compact(keys)
	}
	var l []modelEntry
	for _, k := range keys {
		switch below := level - 1; {
		case level == 0:
			l = append(l, modelEntry{key: k, with: counts(string(someBytes(r, 4)))})
		case r.IntN(60) == 0:
			l = append(l, standsFor(k, somePage(r, max(0, below-1))))
		default:
			l = append(l, standsFor(k, somePage(r, below)))
		}
	}
	p := newPage(level, l)
	if i := r.IntN(len(p.bytes)); i > 0 && r.IntN(60) == 0 {
		p.bytes = p.bytes[:i] + string(someBytes(r, 3)) + p.bytes[i+r.IntN(2):]
	}
	return p
}

// TestSomePages: against the model, proofs of trees that no store would make,
// and of others.
func TestSomePages(t *testing.T) {
	told := map[api.Errno]int{}
	for seed := range uint64(2100) {
		r := rand.New(rand.NewPCG(seed, 6))
		p := somePage(r, int(seed%7))
		for range 12 {
			from, to := string(append(someBytes(r, 2), 'b')), string(append(someBytes(r, 2), 'd'))
			narrow, wide := proofOf(p.pagesOfKey(from)), proofOf(p.pagesOfRange(from, to))
			told[check(t, digestOf(p), from, narrow)]++
			told[check(t, digestOf(p), to, narrow)]++
			told[check(t, digestOf(p), from, wide)]++
			told[checkRange(t, digestOf(p), from, to, wide)]++
			told[checkRange(t, digestOf(p), from, to, narrow)]++
		}
	}
	for _, e := range []api.Errno{api.OK, api.ErrArg, api.ErrProof} {
		if told[e] < 10000 {
			t.Errorf("P6: the errors are told so often: %v", told)
		}
	}
}

func TestAnyBytesAsProof(t *testing.T) {
	for _, b := range lists() {
		for _, n := range []int{0, 1, 2, 3, 255, 256, 65535} {
			counted := append([]byte{byte(n >> 8), byte(n)}, b...)
			for _, p := range []string{string(b), string(counted)} {
				for _, root := range []api.Digest{{}, modelDigest(b), modelDigest([]byte(p)), modelDigest([]byte(p[min(len(p), 2):]))} {
					check(t, root, "a", p)
					checkRange(t, root, "a", "b", p)
				}
			}
		}
	}
	for seed := range uint64(20000) {
		r := rand.New(rand.NewPCG(seed, 7))
		b := make([]byte, r.IntN(30))
		for i := range b {
			b[i] = byte(r.IntN(3))
		}
		p := string([]byte{0, byte(len(b))}) + string(b)
		check(t, modelDigest(b), "\x01", p)
		checkRange(t, modelDigest(b), "\x01", "\x02", p)
	}
}

// TestAnswersAreTheCallers: P2, of all lists that come out and of their spare
// room, beside those that are handed in.
func TestAnswersAreTheCallers(t *testing.T) {
	b := newBoth(t)
	fill(b, 60)
	b.commit()
	for i := range 59 {
		narrow, _ := b.m.prove(0, key(i))
		wide, _ := b.m.proveRange(0, key(i), key(59))
		one, wholeOne := roomy(narrow)
		other, wholeOther := roomy(wide)
		from, wholeFrom := roomy(string(key(i)))
		to, wholeTo := roomy(string(key(59)))
		in := [][]byte{wholeOne, wholeOther, wholeFrom, wholeTo}
		before := bytes.Join(in, nil)
		a, e := cairn.Check(b.m.roots[0], from, one)
		l, f := cairn.CheckRange(b.m.roots[0], from, to, other)
		if e != api.OK || f != api.OK || !a.Found || len(l) != 59-i {
			t.Errorf("P6: Check = %v, %d, CheckRange = %q, %d", a, e, l, f)
		}
		out := [][]byte{a.Value}
		for _, e := range l {
			out = append(out, e.Key, e.Value)
		}
		for n, list := range out {
			list = list[:cap(list)]
			for i := range list {
				list[i] = byte(n)
			}
		}
		if !bytes.Equal(bytes.Join(in, nil), before) {
			t.Errorf("P2: lists handed in became %q", in)
		}
		for _, list := range in {
			clear(list)
		}
		for n, list := range out {
			if list = list[:cap(list)]; bytes.Count(list, []byte{byte(n)}) != len(list) {
				t.Errorf("P2: the list %d shares memory: %v", n, list)
			}
		}
		clear(l[:cap(l)])
		b.check(0, key(i), []byte(narrow))
		b.checkRange(0, key(i), key(59), []byte(wide))
	}
}

// TestRefusedListsAreNotWritten: P2, where the answer is an error.
func TestRefusedListsAreNotWritten(t *testing.T) {
	b := newBoth(t)
	fill(b, 60)
	b.commit()
	good, _ := b.m.proveRange(0, key(3), key(50))
	for _, text := range []string{good + "\x00", good[:len(good)-1], good[:len(good)-1] + "\xfe"} {
		p, whole := roomy(text)
		from, wholeFrom := roomy("03")
		to, wholeTo := roomy("50")
		before := string(whole) + string(wholeFrom) + string(wholeTo)
		cairn.Check(b.m.roots[0], from, p)
		cairn.CheckRange(b.m.roots[0], from, to, p)
		cairn.CheckRange(b.m.roots[0], to, from, p)
		if string(whole)+string(wholeFrom)+string(wholeTo) != before {
			t.Errorf("P2: lists handed in became %q, %q, %q", whole, wholeFrom, wholeTo)
		}
	}
}

// TestChecksHangOnArgumentsAlone: P1, whatever was checked or stored ahead.
func TestChecksHangOnArgumentsAlone(t *testing.T) {
	x, y := leaf("b c"), leaf("e")
	root := over(1, "c e", x, y)
	good, bad := proofOf([]*modelPage{root, x, y}), proofOf([]*modelPage{root, y, x})
	known := cairn.New()
	for _, k := range []string{"b", "c", "e"} {
		known.Put([]byte(k), []byte(k+"!"))
	}
	known.Commit()
	for range 3 {
		holds(t, root, "b", "f", good, "b c e")
		falls(t, digestOf(root), "b", "f", bad)
		falls(t, digestOf(root), "b", "", good)
		falls(t, digestOf(root), "b", "", root.counted())
		holds(t, root, "c", "", proofOf([]*modelPage{root, x}), "c")
		for _, s := range stores() {
			s.Commit()
		}
	}
}

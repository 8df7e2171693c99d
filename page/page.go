// Package page: keys, values, entries and pages, and pages as bytes.
package page

import "cairn/api"

// Entry is a key and what goes with it: a value on the level 0, a digest above it.
type Entry struct {
	Key    []byte
	Value  []byte
	Digest api.Digest
}

// Page is a level and entries with rising keys.
type Page struct {
	Level   int
	Entries []Entry
}

// IsKey tells whether these bytes may be a key.
func IsKey(b []byte) bool {
	return len(b) >= 1 && len(b) <= api.MaxKey
}

// IsValue tells whether these bytes may be a value.
func IsValue(b []byte) bool {
	return len(b) <= api.MaxValue
}

// Bytes gives the page as bytes.
func (p Page) Bytes() []byte {
	b := []byte{byte(p.Level), byte(len(p.Entries))}
	for _, e := range p.Entries {
		b = appendCounted(b, e.Key)
		if p.Level == 0 {
			b = appendCounted(b, e.Value)
		} else {
			b = append(b, e.Digest[:]...)
		}
	}
	return b
}

// appendCounted appends a list with the number of its bytes ahead.
func appendCounted(b []byte, list []byte) []byte {
	return append(append(b, byte(len(list))), list...)
}

// Package sym is layer 1: see shared/doc/01-sym.md.
package sym

import (
	"bytes"
	"iter"
	"unicode/utf8"

	"clew/api"
)

// firstRaw is the least symbol that stands for a byte: those below 0x80 are encodings of their own.
const firstRaw = api.Bad + utf8.RuneSelf

// At is the symbol that stands at a place, and how many bytes it has.
func At(b []byte, at int) (int, int) {
	if at < 0 || at >= len(b) {
		return 0, 0
	}
	r, n := utf8.DecodeRune(b[at:])
	// The replacement character stands for a fault only where it has one byte: its own encoding has three.
	if r == utf8.RuneError && n == 1 {
		return api.Bad + int(b[at]), 1
	}
	return int(r), n
}

// Each are all symbols, with where they begin.
func Each(b []byte) iter.Seq2[int, int] {
	// What comes later must not hang on bytes that the caller has changed since.
	return each(bytes.Clone(b))
}

// each is Each over the very bytes it is handed.
func each(b []byte) iter.Seq2[int, int] {
	return func(yield func(int, int) bool) {
		for at := 0; at < len(b); {
			x, n := At(b, at)
			if !yield(at, x) {
				return
			}
			at += n
		}
	}
}

// All are all symbols.
func All(b []byte) []int {
	var l []int
	for _, x := range each(b) {
		l = append(l, x)
	}
	return l
}

// Starts is where all symbols begin, and the end.
func Starts(b []byte) []int {
	var l []int
	for at := range each(b) {
		l = append(l, at)
	}
	return append(l, len(b))
}

// Is tells whether a number is a symbol.
func Is(x int) bool {
	return isScalar(x) || isRaw(x)
}

// isScalar tells whether a number is a Unicode scalar value.
func isScalar(x int) bool {
	// A number past what a rune holds would wrap round, so the range is looked at first.
	return x >= 0 && x <= utf8.MaxRune && utf8.ValidRune(rune(x))
}

// isRaw tells whether a number is the symbol of a byte outside any encoding.
func isRaw(x int) bool {
	return x >= firstRaw && x <= api.MaxSym
}

// Put are a symbol's bytes.
func Put(x int) ([]byte, api.Errno) {
	if !Is(x) {
		return nil, api.ErrRange
	}
	return add(nil, x), api.OK
}

// add writes a symbol's bytes behind some.
func add(b []byte, x int) []byte {
	if isRaw(x) {
		return append(b, byte(x-api.Bad))
	}
	return utf8.AppendRune(b, rune(x))
}

// Bytes are symbols' bytes, one behind the other.
func Bytes(l []int) ([]byte, api.Errno) {
	var b []byte
	for _, x := range l {
		if !Is(x) {
			return nil, api.ErrRange
		}
		b = add(b, x)
	}
	return b, api.OK
}

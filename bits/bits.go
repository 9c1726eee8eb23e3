// Package bits: words, bytes, hex (layer 1): see doc/01-bits.md.
package bits

import (
	"bytes"
	"slices"
)

// digits are the hex digits, each at the place of its number.
const digits = "0123456789abcdef"

// Word is what the word functions work on.
type Word interface {
	uint32 | uint64
}

// RotL turns a word to the left.
func RotL[T Word](x T, n int) T {
	width := 8 * size[T]()
	// The width is a power of two: its mask counts modulo the width below 0 too, where Go's % would stay below 0.
	places := n & (width - 1)
	return x<<places | x>>(width-places)
}

// RotR turns a word to the right.
func RotR[T Word](x T, n int) T {
	// The least int stays itself when it is negated; being a multiple of the width, it turns nothing either way.
	return RotL(x, -n)
}

// LoadBE reads a word, its highest byte first.
func LoadBE[T Word](b []byte, at int) (T, bool) {
	word, ok := piece(b, at, size[T]())
	var x T
	for _, c := range word {
		x = x<<8 | T(c)
	}
	return x, ok
}

// LoadLE reads a word, its lowest byte first.
func LoadLE[T Word](b []byte, at int) (T, bool) {
	word, ok := piece(b, at, size[T]())
	var x T
	for i, c := range word {
		x |= T(c) << (8 * i)
	}
	return x, ok
}

// StoreBE tells a word, its highest byte first.
func StoreBE[T Word](x T) []byte {
	b := StoreLE(x)
	slices.Reverse(b)
	return b
}

// StoreLE tells a word, its lowest byte first.
func StoreLE[T Word](x T) []byte {
	b := make([]byte, size[T]())
	for i := range b {
		b[i] = byte(x >> (8 * i))
	}
	return b
}

// Xor is the bitwise difference of two lists of one length.
func Xor(a, b []byte) ([]byte, bool) {
	if len(a) != len(b) {
		return nil, false
	}
	x := make([]byte, len(a))
	for i := range x {
		x[i] = a[i] ^ b[i]
	}
	return x, true
}

// Equal tells whether two lists are the same.
func Equal(a, b []byte) bool { return bytes.Equal(a, b) }

// Join lays lists one behind the other.
func Join(parts ...[]byte) []byte {
	total := 0
	for _, p := range parts {
		total += len(p)
	}
	joined := make([]byte, 0, total)
	for _, p := range parts {
		joined = append(joined, p...)
	}
	return joined
}

// Hex tells bytes as a text.
func Hex(b []byte) string {
	text := make([]byte, 0, 2*len(b))
	for _, c := range b {
		text = append(text, digits[c>>4], digits[c&15])
	}
	return string(text)
}

// Unhex reads what Hex tells.
func Unhex(s string) ([]byte, bool) {
	if len(s)%2 != 0 {
		return nil, false
	}
	b := make([]byte, len(s)/2)
	for i := range b {
		high, okHigh := digit(s[2*i])
		low, okLow := digit(s[2*i+1])
		if !okHigh || !okLow {
			return nil, false
		}
		b[i] = high<<4 | low
	}
	return b, true
}

// size is how many bytes a word takes.
func size[T Word]() int {
	if uint64(^T(0)) == 1<<32-1 {
		return 4
	}
	return 8
}

// piece is the n bytes of b from the place at on, if so many stand there.
func piece(b []byte, at, n int) ([]byte, bool) {
	// Asked by what is left of b: at + n may be beyond the greatest int.
	if at < 0 || at > len(b)-n {
		return nil, false
	}
	return b[at : at+n], true
}

// digit is the number that a hex digit stands for.
func digit(c byte) (byte, bool) {
	switch {
	case '0' <= c && c <= '9':
		return c - '0', true
	case 'a' <= c && c <= 'f':
		return c - 'a' + 10, true
	}
	return 0, false
}

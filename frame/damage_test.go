package frame_test

import (
	"bytes"
	"slices"
	"testing"

	"farebox/api"
	"farebox/frame"
)

// turn turns the bits that the pattern has, its lowest at the first place; places are counted byte by byte, in each from the lowest bit on.
func turn(b []byte, first int, pattern uint32) []byte {
	c := bytes.Clone(b)
	for i := range 32 {
		if pattern>>i&1 == 1 {
			c[(first+i)/8] ^= 1 << ((first + i) % 8)
		}
	}
	return c
}

// TestThereAndBackP13_7: what Encode tells is read wherever it stands, whatever stands beside it.
func TestThereAndBackP13_7(t *testing.T) {
	r := chance(8)
	for n := range 200 {
		f := api.Frame{Kind: byte(r.Uint32()), Payload: some(r, n)}
		told := encoded(t, f.Kind, f.Payload)
		for _, ahead := range []int{0, 1, 2, 5, 6, 10, 100} {
			for _, behind := range []int{0, 1, 10} {
				b := slices.Concat(some(r, ahead), told, some(r, behind))
				wantFrame(t, "P13.7: there and back", b, ahead, f)
			}
		}
	}
	for kind := range 256 {
		f := api.Frame{Kind: byte(kind), Payload: []byte{byte(kind)}}
		wantFrame(t, "P13.7: each kind", encoded(t, f.Kind, f.Payload), 0, f)
	}
	inner := encoded(t, 4, []byte("inner"))
	outer := encoded(t, 5, inner)
	wantFrame(t, "P13.7: a frame as a payload", outer, 0, api.Frame{Kind: 5, Payload: inner})
	wantFrame(t, "P13.7: the frame within", outer, 6, api.Frame{Kind: 4, Payload: []byte("inner")})
}

// TestListsP13_7: frames one behind the other are scanned as these frames.
func TestListsP13_7(t *testing.T) {
	r := chance(9)
	for n := range 60 {
		var frames []api.Frame
		for range n {
			frames = append(frames, api.Frame{Kind: byte(r.Uint32()), Payload: some(r, r.IntN(50))})
		}
		b, places := list(t, frames)
		got, end, tail := frame.Scan(b)
		if !slices.EqualFunc(got, frames, sameFrame) || end != places[n] || tail != api.TailNone {
			t.Errorf("P13.7: %d frames are scanned as %d, to %d of %d, %d", n, len(got), end, len(b), tail)
		}
	}
}

// TestCutP13_7: cut anywhere, a list of frames is scanned as those that are whole.
func TestCutP13_7(t *testing.T) {
	frames := append(slices.Clone(three), api.Frame{Kind: 0xa5, Payload: bytes.Repeat([]byte{0xa5, 0, 0, 0, 0, 0}, 30)})
	b, places := list(t, frames)
	whole := 0
	for n := range b {
		if n >= places[whole+1] {
			whole++
		}
		tail := api.TailShort
		if n == places[whole] {
			tail = api.TailNone
		}
		got, end, gotTail := frame.Scan(b[:n])
		if !slices.EqualFunc(got, frames[:whole], sameFrame) || end != places[whole] || gotTail != tail {
			t.Errorf("P13.7: cut behind %d: %d frames, %d, %d, want %d, %d, %d", n, len(got), end, gotTail, whole, places[whole], tail)
		}
	}
}

// TestBeginningsP13_7: no proper beginning of a frame is one.
func TestBeginningsP13_7(t *testing.T) {
	r := chance(10)
	for n := range 120 {
		b := encoded(t, byte(n), some(r, n))
		for end := 1; end < len(b); end++ {
			wantNone(t, "P13.7: a beginning", b[:end], 0, api.TailShort)
		}
	}
}

// TestOneBitP13_7: a frame with one bit turned is none, but for the bits of the length, of which nothing is promised.
func TestOneBitP13_7(t *testing.T) {
	r := chance(11)
	for _, n := range []int{0, 1, 2, 3, 4, 5, 30, 200} {
		b := encoded(t, byte(r.Uint32()), some(r, n))
		for bit := range 8 * len(b) {
			switch place := bit / 8; {
			case place == 0:
				wantNone(t, "P13.7: a bit of the mark", turn(b, bit, 1), 0, api.TailMark)
			case place == 1 || place > 5:
				wantNone(t, "P13.7: one bit", turn(b, bit, 1), 0, api.TailSum)
			}
		}
	}
}

// TestLengthBitP13_7: whatever is turned in the length, the call ends, and what is read is whole.
func TestLengthBitP13_7(t *testing.T) {
	b := slices.Concat(encoded(t, 1, []byte("abc")), bytes.Repeat([]byte("x"), 300))
	for bit := 16; bit < 48; bit++ {
		c := turn(b, bit, 1)
		want, next, tail := modelDecode(c, 0)
		f, gotNext, gotTail := frame.Decode(c, 0)
		if !sameFrame(f, want) || gotNext != next || gotTail != tail {
			t.Errorf("P13.4: bit %d of the length: %d, %d, want %d, %d", bit, gotNext, gotTail, next, tail)
		}
	}
}

// TestBurstsP13_7: several bits turned behind the first six bytes and within 32 in a row are seen, over the seam between payload and sum too.
func TestBurstsP13_7(t *testing.T) {
	r := chance(12)
	special := []uint32{0xEDB88320, 0xEDB88321, 0xDB710641, 0x04C11DB7, 0x82608EDB, 0xFFFFFFFF, 0x80000001, 0x55555555, 0xAAAAAAAA, 0xFF, 0xFFFF, 0x01010101, 3, 5, 0x81}
	for _, n := range []int{0, 1, 2, 3, 4, 7, 20} {
		b := encoded(t, byte(r.Uint32()), some(r, n))
		for first := 48; first < 8*len(b); first++ {
			room := min(32, 8*len(b)-first)
			patterns := slices.Clone(special)
			for range 40 {
				patterns = append(patterns, r.Uint32())
			}
			for _, p := range patterns {
				p = p<<(32-room)>>(32-room) | 1
				wantNone(t, "P13.7: bits within 32", turn(b, first, p), 0, api.TailSum)
			}
		}
	}
}

// TestShortBurstsP13_7: all patterns within 10 bits, at every place behind the first six bytes.
func TestShortBurstsP13_7(t *testing.T) {
	b := encoded(t, 6, []byte("seam"))
	for first := 48; first < 8*len(b); first++ {
		room := min(10, 8*len(b)-first)
		for p := uint32(1); p < 1<<room; p += 2 {
			wantNone(t, "P13.7: bits within 10", turn(b, first, p), 0, api.TailSum)
		}
	}
}

// TestSeamP13_7: 31 bits over the seam that a sum with its highest byte first would let pass.
func TestSeamP13_7(t *testing.T) {
	for _, text := range []string{"a", "ab", "a longer payload"} {
		b := encoded(t, 7, []byte(text))
		for i, c := range []byte{0x80, 0xed, 0xb8, 0x83, 0x20} {
			b[len(b)-5+i] ^= c
		}
		wantNone(t, "P13.7: over the seam", b, 0, api.TailSum)
	}
}

package frame_test

import (
	"bytes"
	"hash/crc32"
	"math"
	"testing"

	"farebox/api"
	"farebox/frame"
)

// TestSumP13_2: the chapter's sums, and those of bytes of all lengths, against the document's words and Go's library.
func TestSumP13_2(t *testing.T) {
	if frame.Sum(nil) != 0 || frame.Sum([]byte{}) != 0 || frame.Sum([]byte("123456789")) != 0xCBF43926 {
		t.Errorf("P13.2: Sum = %#x, %#x", frame.Sum(nil), frame.Sum([]byte("123456789")))
	}
	r := chance(1)
	lists := [][]byte{make([]byte, 1), make([]byte, 4), make([]byte, 1000), bytes.Repeat([]byte{255}, 4), bytes.Repeat([]byte{255}, 999), some(r, api.MaxPayload+5)}
	for c := range 256 {
		lists = append(lists, []byte{byte(c)}, []byte{byte(c), 0}, []byte{0, byte(c)})
	}
	for n := range 300 {
		lists = append(lists, some(r, n))
	}
	for _, b := range lists {
		got := frame.Sum(b)
		if got != bitByBit(b) || got != crc32.ChecksumIEEE(b) {
			t.Errorf("P13.2: Sum(%d bytes %x) = %#x, want %#x", len(b), short(b), got, bitByBit(b))
		}
	}
}

// TestEncodeP13_3: every kind, payloads of all small lengths and around the greatest.
func TestEncodeP13_3(t *testing.T) {
	r := chance(2)
	for kind := range 256 {
		encoded(t, byte(kind), nil)
		encoded(t, byte(kind), some(r, kind))
	}
	for n := range 300 {
		if b := encoded(t, byte(r.Uint32()), some(r, n)); len(b) != n+10 {
			t.Errorf("P13.3: a payload of %d bytes makes %d", n, len(b))
		}
	}
	for _, n := range []int{65535, 65536, api.MaxPayload - 1, api.MaxPayload} {
		encoded(t, 255, some(r, n))
	}
	for _, n := range []int{api.MaxPayload + 1, api.MaxPayload + 2, 2 * api.MaxPayload, 1 << 24} {
		if b, ok := frame.Encode(7, make([]byte, n)); ok || len(b) != 0 {
			t.Errorf("P13.3: Encode of %d bytes = %d bytes, %v", n, len(b), ok)
		}
	}
}

// TestExamplesP13: the rows of the chapter's table.
func TestExamplesP13(t *testing.T) {
	b, ok := frame.Encode(0x48, nil)
	sum := frame.Sum([]byte{0x48, 0, 0, 0, 0})
	if !ok || !bytes.Equal(b, []byte{0xa5, 0x48, 0, 0, 0, 0, byte(sum), byte(sum >> 8), byte(sum >> 16), byte(sum >> 24)}) {
		t.Errorf("Encode(0x48, no payload) = %x, %v", b, ok)
	}
	if b, ok := frame.Encode(1, make([]byte, 262144)); len(b) != 262154 || !ok {
		t.Errorf("Encode of 262144 bytes = %d bytes, %v", len(b), ok)
	}
	if b, ok := frame.Encode(1, make([]byte, 262145)); len(b) != 0 || ok {
		t.Errorf("Encode of 262145 bytes = %d bytes, %v", len(b), ok)
	}
	ab := encoded(t, 7, []byte("ab"))
	if f, next, tail := frame.Decode(ab, 0); f.Kind != 7 || string(f.Payload) != "ab" || next != 12 || tail != api.TailNone {
		t.Errorf("Decode(Encode(7, ab), 0) = %v, %d, %d", f, next, tail)
	}
	wantNone(t, "the first 11", ab[:11], 0, api.TailShort)
	wantNone(t, "the first 5", ab[:5], 0, api.TailShort)
	wantNone(t, "none", ab[:0], 0, api.TailNone)
	wantNone(t, "a length of one more", []byte{0xa5, 1, 0, 4, 0, 1}, 0, api.TailLong)
	wantNone(t, "00 ..", make([]byte, 12), 0, api.TailMark)
	wantNone(t, "ff ..", bytes.Repeat([]byte{255}, 12), 0, api.TailMark)
	wantNone(t, "x at -1", []byte("x"), -1, api.TailShort)
	wantNone(t, "x at 2", []byte("x"), 2, api.TailShort)
	wantNone(t, "x at 1", []byte("x"), 1, api.TailNone)
	two := append(append(encoded(t, 1, []byte("one")), encoded(t, 2, nil)...), 0xFF)
	frames, end, tail := frame.Scan(two)
	if len(frames) != 2 || string(frames[0].Payload) != "one" || frames[1].Kind != 2 || end != 23 || tail != api.TailMark {
		t.Errorf("Scan of two frames and ff = %v, %d, %d", frames, end, tail)
	}
}

// TestPlacesP13_4: places within, at and beyond both ends.
func TestPlacesP13_4(t *testing.T) {
	b := encoded(t, 3, []byte("payload"))
	for _, at := range []int{-1, -2, -6, -17, math.MinInt, math.MinInt + 1, math.MinInt + 10, len(b) + 1, len(b) + 2, len(b) + 10, math.MaxInt, math.MaxInt - 1, math.MaxInt - 6, math.MaxInt - 10, math.MaxInt - 17} {
		wantNone(t, "a place outside", b, at, api.TailShort)
		wantNone(t, "a place outside of bytes 0", make([]byte, len(b)), at, api.TailShort)
		wantNone(t, "a place outside of nothing", nil, at, api.TailShort)
	}
	wantNone(t, "the end", b, len(b), api.TailNone)
	wantNone(t, "the end of bytes 0", make([]byte, 4), 4, api.TailNone)
	wantNone(t, "nothing at 0", nil, 0, api.TailNone)
	wantNone(t, "nothing at 1", nil, 1, api.TailShort)
	wantNone(t, "nothing at -1", nil, -1, api.TailShort)
	for at := 1; at < len(b); at++ {
		wantNone(t, "within a frame", b, at, api.TailMark)
	}
}

// TestMarksP13_4: no other first byte begins a frame, whatever stands behind it.
func TestMarksP13_4(t *testing.T) {
	whole := encoded(t, 9, []byte("abc"))
	for c := range 256 {
		if c == 0xa5 {
			continue
		}
		whole[0] = byte(c)
		for _, n := range []int{1, 2, 5, 6, 9, len(whole) - 1, len(whole)} {
			wantNone(t, "another first byte", whole[:n], 0, api.TailMark)
		}
	}
}

// TestLengthsP13_4: lengths around MaxPayload and the highest, with as many bytes as it takes, and one less.
func TestLengthsP13_4(t *testing.T) {
	for n := 1; n < 6; n++ {
		wantNone(t, "one to five bytes", []byte{0xa5, 1, 255, 255, 255}[:n], 0, api.TailShort)
		wantNone(t, "one to five bytes", []byte{0xa5, 1, 0, 0, 0}[:n], 0, api.TailShort)
	}
	wantNone(t, "six bytes", []byte{0xa5, 1, 0, 0, 0, 0}, 0, api.TailShort)
	wantNone(t, "six bytes, a length of MaxPayload", []byte{0xa5, 1, 0, 4, 0, 0}, 0, api.TailShort)
	for _, length := range [][]byte{{0, 4, 0, 1}, {0, 4, 1, 0}, {0, 5, 0, 0}, {1, 0, 0, 0}, {1, 0, 0, 2}, {127, 255, 255, 255}, {128, 0, 0, 0}, {255, 255, 255, 246}, {255, 255, 255, 250}, {255, 255, 255, 255}} {
		b := append([]byte{0xa5, 1}, length...)
		wantNone(t, "six bytes, a length too great", b, 0, api.TailLong)
		wantNone(t, "a length too great, and bytes behind it", append(b, make([]byte, 300)...), 0, api.TailLong)
	}
	r := chance(3)
	payload := some(r, api.MaxPayload)
	b := encoded(t, 0, payload)
	wantFrame(t, "MaxPayload", b, 0, api.Frame{Payload: payload})
	wantNone(t, "MaxPayload, one byte less", b[:len(b)-1], 0, api.TailShort)
	more := modelEncode(0, append(payload, 1))
	wantNone(t, "a whole frame of one byte more", more, 0, api.TailLong)
}

// TestSumsP13_4: a sum with one bit turned, and other sums that are near at hand.
func TestSumsP13_4(t *testing.T) {
	b := encoded(t, 5, []byte("abcdef"))
	foot := len(b) - 4
	for bit := range 32 {
		c := bytes.Clone(b)
		c[foot+bit/8] ^= 1 << (bit % 8)
		wantNone(t, "a turned bit of the sum", c, 0, api.TailSum)
	}
	highFirst := bytes.Clone(b)
	highFirst[foot], highFirst[foot+1], highFirst[foot+2], highFirst[foot+3] = b[foot+3], b[foot+2], b[foot+1], b[foot]
	wantNone(t, "the sum's highest byte first", highFirst, 0, api.TailSum)
	for _, of := range [][]byte{b[:foot], b[2:foot], b[6:foot], nil} {
		sum := crc32.ChecksumIEEE(of)
		c := append(bytes.Clone(b[:foot]), byte(sum), byte(sum>>8), byte(sum>>16), byte(sum>>24))
		wantNone(t, "a sum over other bytes", c, 0, api.TailSum)
	}
}

// TestOrderP13_4: of several faults of one place the first that the chapter names is told.
func TestOrderP13_4(t *testing.T) {
	spoilt := encoded(t, 5, []byte("abcdef"))
	spoilt[len(spoilt)-1] ^= 1
	long := append([]byte{0xa5, 5, 0, 4, 0, 1}, make([]byte, 20)...)
	for _, c := range []struct {
		what string
		b    []byte
		at   int
		tail int
	}{
		{"outside, and another first byte", []byte{0}, 2, api.TailShort},
		{"no byte, and so fewer than 6", spoilt, len(spoilt), api.TailNone},
		{"another first byte, and fewer than 6", []byte{0xa4, 5}, 0, api.TailMark},
		{"another first byte, and a length too great", append([]byte{0xa4}, long[1:]...), 0, api.TailMark},
		{"another first byte, and a sum that is another", append([]byte{0}, spoilt[1:]...), 0, api.TailMark},
		{"fewer than 6, and a length that begins too great", long[:5], 0, api.TailShort},
		{"fewer than 6, and a length of 255s", []byte{0xa5, 5, 255, 255, 255}, 0, api.TailShort},
		{"a length too great, and fewer bytes than that", long, 0, api.TailLong},
		{"a length too great, all bytes there, and a sum that is another", append([]byte{0xa5, 5, 0, 4, 0, 1}, make([]byte, api.MaxPayload+5)...), 0, api.TailLong},
		{"fewer bytes than the frame has, and a sum that is another", spoilt[:len(spoilt)-1], 0, api.TailShort},
		{"all bytes there, and a sum that is another", spoilt, 0, api.TailSum},
		{"a sum that is another, and more behind it", append(bytes.Clone(spoilt), 0xa5, 1), 0, api.TailSum},
	} {
		wantNone(t, c.what, c.b, c.at, c.tail)
	}
}

// TestDecodeByChanceP13_4: every place of bytes that are frames, pieces of them and noise, against the model.
func TestDecodeByChanceP13_4(t *testing.T) {
	r := chance(4)
	for range 400 {
		b := mixture(r)
		for at := -2; at <= len(b)+2; at++ {
			f, next, tail := frame.Decode(b, at)
			want, wantNext, wantTail := modelDecode(b, at)
			if !sameFrame(f, want) || next != wantNext || tail != wantTail {
				t.Fatalf("P13.4: Decode(%x, %d) = %v, %d, %d, want %v, %d, %d", b, at, f, next, tail, want, wantNext, wantTail)
			}
		}
	}
}

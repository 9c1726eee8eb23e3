package frame_test

import (
	"bytes"
	"encoding/binary"
	"hash/crc32"
	"math/rand/v2"
	"slices"
	"testing"

	"farebox/api"
	"farebox/frame"
)

// chance is a source of numbers that is the same in every run.
func chance(n uint64) *rand.Rand { return rand.New(rand.NewPCG(13, n)) }

// some are n bytes by chance.
func some(r *rand.Rand, n int) []byte {
	b := make([]byte, n)
	for i := range b {
		b[i] = byte(r.Uint32())
	}
	return b
}

// bitByBit is the check sum in the document's words: a bit of the byte against the register's lowest.
func bitByBit(b []byte) uint32 {
	register := uint32(0xffffffff)
	for _, c := range b {
		for place := range 8 {
			unlike := register%2 != uint32(c>>place)%2
			register /= 2
			if unlike {
				register ^= 0xEDB88320
			}
		}
	}
	return 0xffffffff - register
}

// modelEncode is the frame, laid down by Go's own library.
func modelEncode(kind byte, payload []byte) []byte {
	b := append([]byte{0xa5, kind}, binary.BigEndian.AppendUint32(nil, uint32(len(payload)))...)
	b = append(b, payload...)
	return binary.LittleEndian.AppendUint32(b, crc32.ChecksumIEEE(b[1:]))
}

// modelTail is how reading ends at a place: -1 where a frame is read.
func modelTail(b []byte, at int) int {
	if at < 0 || at > len(b) {
		return api.TailShort
	}
	left := len(b) - at
	if left == 0 {
		return api.TailNone
	}
	if b[at] != 0xa5 {
		return api.TailMark
	}
	if left < 6 {
		return api.TailShort
	}
	length := int64(binary.BigEndian.Uint32(b[at+2 : at+6]))
	if length > 262144 {
		return api.TailLong
	}
	if int64(left) < length+10 {
		return api.TailShort
	}
	told := b[at : at+int(length)+10]
	if !bytes.Equal(told, modelEncode(told[1], told[6:len(told)-4])) {
		return api.TailSum
	}
	return -1
}

func modelDecode(b []byte, at int) (api.Frame, int, int) {
	tail := modelTail(b, at)
	if tail != -1 {
		return api.Frame{}, at, tail
	}
	end := at + 6 + int(binary.BigEndian.Uint32(b[at+2:at+6]))
	return api.Frame{Kind: b[at+1], Payload: b[at+6 : end]}, end + 4, api.TailNone
}

func modelScan(b []byte) (frames []api.Frame, places []int, end, tail int) {
	for modelTail(b, end) == -1 {
		f, next, _ := modelDecode(b, end)
		frames, places = append(frames, f), append(places, end)
		end = next
	}
	return frames, places, end, modelTail(b, end)
}

func sameFrame(a, b api.Frame) bool { return a.Kind == b.Kind && bytes.Equal(a.Payload, b.Payload) }

// short tells bytes of any number in a line.
func short(b []byte) []byte { return b[:min(len(b), 40)] }

// encoded is Encode's frame, which must be the model's.
func encoded(t *testing.T, kind byte, payload []byte) []byte {
	t.Helper()
	b, ok := frame.Encode(kind, payload)
	if !ok || !bytes.Equal(b, modelEncode(kind, payload)) {
		t.Fatalf("P13.3: Encode(%d, %d bytes %x) = %d bytes %x, %v", kind, len(payload), short(payload), len(b), short(b), ok)
	}
	return b
}

// wantNone asks that no frame stands at the place.
func wantNone(t *testing.T, what string, b []byte, at, tail int) {
	t.Helper()
	f, next, got := frame.Decode(b, at)
	if f.Kind != 0 || len(f.Payload) != 0 || next != at || got != tail {
		t.Errorf("%s: Decode = {%d, %x}, %d, %d, want a zero frame, %d, %d", what, f.Kind, short(f.Payload), next, got, at, tail)
	}
}

// wantFrame asks that this frame stands at the place.
func wantFrame(t *testing.T, what string, b []byte, at int, want api.Frame) {
	t.Helper()
	f, next, tail := frame.Decode(b, at)
	if !sameFrame(f, want) || next != at+len(want.Payload)+10 || tail != api.TailNone {
		t.Errorf("%s: Decode = {%d, %x}, %d, %d, want {%d, %x}, %d, 0", what, f.Kind, short(f.Payload), next, tail, want.Kind, short(want.Payload), at+len(want.Payload)+10)
	}
}

// wantScan asks that Scan and All tell what the model does.
func wantScan(t *testing.T, what string, b []byte) {
	t.Helper()
	frames, places, end, tail := modelScan(b)
	got, gotEnd, gotTail := frame.Scan(b)
	if !slices.EqualFunc(got, frames, sameFrame) || gotEnd != end || gotTail != tail {
		t.Errorf("P13.5: Scan of %s = %d frames, %d, %d, want %d, %d, %d", what, len(got), gotEnd, gotTail, len(frames), end, tail)
	}
	n := 0
	for at, f := range frame.All(b) {
		if n >= len(frames) || at != places[n] || !sameFrame(f, frames[n]) {
			t.Fatalf("P13.6: All of %s: number %d is {%d, %x} at %d", what, n, f.Kind, short(f.Payload), at)
		}
		n++
	}
	if n != len(frames) {
		t.Errorf("P13.6: All of %s has %d frames, want %d", what, n, len(frames))
	}
}

// list is frames laid one behind the other, and the places where they begin, the end too.
func list(t *testing.T, frames []api.Frame) (b []byte, places []int) {
	t.Helper()
	for _, f := range frames {
		places = append(places, len(b))
		b = append(b, encoded(t, f.Kind, f.Payload)...)
	}
	return b, append(places, len(b))
}

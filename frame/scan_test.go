package frame_test

import (
	"bytes"
	"iter"
	"math/rand/v2"
	"strconv"
	"testing"

	"farebox/api"
	"farebox/frame"
)

// mixture is frames by chance, now and then with a fault, and a tail of some sort.
func mixture(r *rand.Rand) []byte {
	var b []byte
	for range r.IntN(6) {
		f := modelEncode(byte(r.Uint32()), some(r, r.IntN(20)))
		switch r.IntN(12) {
		case 0:
			f[r.IntN(len(f))] ^= 1 << r.IntN(8)
		case 1:
			f = f[:r.IntN(len(f))]
		case 2:
			f = modelEncode(0xa5, bytes.Repeat([]byte{0xa5}, r.IntN(12)))
		case 3:
			f = modelEncode(1, f) // a frame within a frame
		}
		b = append(b, f...)
	}
	switch r.IntN(4) {
	case 0:
		b = append(b, some(r, r.IntN(12))...)
	case 1:
		b = append(b, bytes.Repeat([]byte{0xff}, r.IntN(12))...)
	}
	return b
}

// tails are one of each sort of what may stand behind frames.
func tails() map[int][][]byte {
	spoilt := modelEncode(3, []byte("spoilt"))
	spoilt[8] ^= 16
	whole := modelEncode(3, []byte("whole"))
	return map[int][][]byte{
		api.TailNone:  {nil, {}},
		api.TailShort: {{0xa5}, {0xa5, 1}, {0xa5, 1, 0, 0, 0}, {0xa5, 1, 0, 0, 0, 0}, {0xa5, 1, 0, 4, 0, 0, 9}, whole[:len(whole)-1]},
		api.TailLong:  {{0xa5, 1, 0, 4, 0, 1}, {0xa5, 1, 255, 255, 255, 255, 0, 0, 0, 0}},
		api.TailSum:   {spoilt, append(bytes.Clone(spoilt), whole...), {0xa5, 1, 0, 0, 0, 0, 0, 0, 0, 0}},
		api.TailMark:  {{0}, {0xff}, make([]byte, 30), bytes.Repeat([]byte{0xff}, 30), append([]byte{0}, whole...)},
	}
}

var three = []api.Frame{{Kind: 1, Payload: []byte("first")}, {Kind: 0}, {Kind: 255, Payload: []byte{0xa5, 0, 0xff}}}

// TestScanP13_5: no frame to three, and behind them each sort of tail; frames behind a fault are not looked for.
func TestScanP13_5(t *testing.T) {
	for n := range 4 {
		b, _ := list(t, three[:n])
		for tail, lists := range tails() {
			for _, behind := range lists {
				whole := append(bytes.Clone(b), behind...)
				frames, end, got := frame.Scan(whole)
				if len(frames) != n || end != len(b) || got != tail {
					t.Errorf("P13.5: Scan of %d frames and %x = %d frames, %d, %d, want tail %d", n, behind, len(frames), end, got, tail)
				}
				wantScan(t, strconv.Itoa(n)+" frames and a tail", whole)
			}
		}
	}
	wantScan(t, "nothing", nil)
}

// TestScanByChanceP13_5: frames, pieces of them and noise, against the model.
func TestScanByChanceP13_5(t *testing.T) {
	r := chance(5)
	for range 3000 {
		b := mixture(r)
		wantScan(t, strconv.Quote(string(b)), b)
	}
}

// TestManyP13_5: many small frames, and several of the greatest.
func TestManyP13_5(t *testing.T) {
	r := chance(6)
	var small, great []byte
	for range 3000 {
		small = append(small, modelEncode(byte(r.Uint32()), some(r, r.IntN(4)))...)
	}
	for range 3 {
		great = append(great, modelEncode(byte(r.Uint32()), some(r, api.MaxPayload))...)
	}
	wantScan(t, "many small frames", small)
	wantScan(t, "frames of MaxPayload", great)
	wantScan(t, "frames of MaxPayload, the last cut off", great[:len(great)-1])
}

// TestAllLeftP13_6: All may be left after each of its frames, and is gone through from the front each time.
func TestAllLeftP13_6(t *testing.T) {
	b, places := list(t, three)
	all := frame.All(append(bytes.Clone(b), 0xff))
	for leave := 1; leave <= len(three)+1; leave++ {
		n := 0
		for at, f := range all {
			if at != places[n] || !sameFrame(f, three[n]) {
				t.Errorf("P13.6: number %d is %v at %d", n, f, at)
			}
			n++
			if n == leave {
				break
			}
		}
		if n != min(leave, len(three)) {
			t.Errorf("P13.6: left behind %d, %d were told", leave, n)
		}
	}
}

// TestAllNoMoreP13_6: whoever has said that it is enough is asked no more.
func TestAllNoMoreP13_6(t *testing.T) {
	b, _ := list(t, three)
	for enough := 1; enough <= 3; enough++ {
		asked := 0
		frame.All(b)(func(int, api.Frame) bool {
			asked++
			return asked < enough
		})
		if asked != enough {
			t.Errorf("P13.6: asked %d times, enough was %d", asked, enough)
		}
	}
	frame.All(nil)(func(int, api.Frame) bool {
		t.Error("P13.6: a frame of nothing")
		return true
	})
}

// TestAllTwiceP13_6: one All gone through twice, within itself, and step by step, tells the same each time.
func TestAllTwiceP13_6(t *testing.T) {
	b, places := list(t, three)
	all := frame.All(b)
	for outer := range all {
		n := 0
		for at, f := range all {
			if at != places[n] || !sameFrame(f, three[n]) {
				t.Errorf("P13.6: within %d: number %d is %v at %d", outer, n, f, at)
			}
			n++
		}
		if n != 3 {
			t.Errorf("P13.6: within %d: %d frames", outer, n)
		}
	}
	next, stop := iter.Pull2(all)
	defer stop()
	for i, want := range three {
		if at, f, ok := next(); !ok || at != places[i] || !sameFrame(f, want) {
			t.Errorf("P13.6: step %d is %v at %d, %v", i, f, at, ok)
		}
	}
	if _, _, ok := next(); ok {
		t.Error("P13.6: a step more than there are frames")
	}
}

// TestAllReadsLateP13_1: All's function reads the bytes when it is called.
func TestAllReadsLateP13_1(t *testing.T) {
	b := make([]byte, 16)
	all := frame.All(b)
	for range all {
		t.Fatal("P13.1: a frame of bytes 0")
	}
	for _, text := range []string{"early!", "later!"} {
		copy(b, modelEncode(2, []byte(text)))
		n := 0
		for at, f := range all {
			if at != 0 || string(f.Payload) != text {
				t.Errorf("P13.1: {%d, %q} at %d, the bytes have %q", f.Kind, f.Payload, at, text)
			}
			n++
		}
		if n != 1 {
			t.Errorf("P13.1: %d frames", n)
		}
	}
}

// TestAllChangedP13_1: it ends whatever becomes of the bytes while they are gone through.
func TestAllChangedP13_1(t *testing.T) {
	r := chance(7)
	for range 300 {
		b, _ := list(t, append(three, three...))
		n := 0
		for at, f := range frame.All(b) {
			if at+10+len(f.Payload) > len(b) {
				t.Fatalf("P13.1: a frame at %d of %d bytes", at, len(b))
			}
			b[r.IntN(len(b))] ^= byte(r.Uint32())
			n++
		}
		if n < 1 || n > 6 {
			t.Errorf("P13.1: %d frames", n)
		}
	}
}

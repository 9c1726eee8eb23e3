package frame_test

import (
	"bytes"
	"math"
	"testing"

	"farebox/api"
	"farebox/frame"
)

// handed is a list with other bytes ahead of it and behind it in its memory, and all of that memory.
func handed(b, behind []byte) (piece, all []byte) {
	all = append([]byte("<<<<<<<<"), b...)
	all = append(append(all, behind...), ">>>>>>>>>>>>"...)
	return all[8 : 8+len(b)], all
}

// wreck writes over a list and over its spare room.
func wreck(b []byte) {
	b = b[:cap(b)]
	for i := range b {
		b[i] ^= 0xff
	}
}

// ask makes every call of the bytes, and lays something behind each answer.
func ask(b []byte) {
	frame.Sum(b)
	told, _ := frame.Encode(1, b)
	wreck(append(told, 1, 2, 3))
	for at := -1; at <= len(b)+1; at++ {
		f, _, _ := frame.Decode(b, at)
		wreck(append(f.Payload, 1, 2, 3))
		wreck(f.Payload)
	}
	frames, _, _ := frame.Scan(b)
	for _, f := range frames {
		wreck(append(f.Payload, 1, 2, 3))
		wreck(f.Payload)
	}
	for _, f := range frame.All(b) {
		wreck(append(f.Payload, 1, 2, 3))
		wreck(f.Payload)
	}
}

// TestHandedInP13_1: what is handed in is left as it was, what lies beside it in its memory too, whatever is done to the answers.
func TestHandedInP13_1(t *testing.T) {
	frames, _ := list(t, three)
	r := chance(13)
	lists := [][]byte{nil, []byte("no frame"), frames, frames[:len(frames)-1], append(bytes.Clone(frames), 0xff)}
	for range 50 {
		lists = append(lists, mixture(r))
	}
	for _, b := range lists {
		for _, behind := range [][]byte{nil, []byte("behind"), frames} {
			piece, all := handed(b, behind)
			was := bytes.Clone(all)
			ask(piece)
			if !bytes.Equal(all, was) {
				t.Fatalf("P13.1: what was handed in is %x now, was %x", all, was)
			}
		}
	}
}

// TestBehindP13_1: what lies behind the bytes in their memory is none of them.
func TestBehindP13_1(t *testing.T) {
	b, places := list(t, three)
	for n := range b {
		if got, want := frame.Sum(b[:n]), frame.Sum(bytes.Clone(b[:n])); got != want {
			t.Errorf("P13.1: Sum of %d bytes = %#x, want %#x", n, got, want)
		}
		encoded(t, 9, b[:n])
		wantScan(t, "a piece of frames", b[:n])
	}
	wantNone(t, "P13.1: a frame that goes on behind", b[:places[1]-1], 0, api.TailShort)
	wantNone(t, "P13.1: a frame behind the end", b[:places[1]], places[1], api.TailNone)
	wantNone(t, "P13.1: a frame behind the end", b[:places[1]], places[1]+1, api.TailShort)
}

// TestEncodeIsNewP13_1: frames that Encode tells share nothing with the payload nor with one another.
func TestEncodeIsNewP13_1(t *testing.T) {
	for _, n := range []int{0, 1, 6, 100} {
		payload := bytes.Repeat([]byte("p"), n)
		one, _ := frame.Encode(1, payload)
		two, _ := frame.Encode(1, payload)
		want := modelEncode(1, payload)
		wreck(one)
		wreck(payload)
		if !bytes.Equal(two, want) {
			t.Errorf("P13.1: a frame of %d bytes is %x now, was %x", n, two, want)
		}
	}
}

// answers are the payloads of three frames, by each of the calls, twice.
func answers(b []byte, places []int) [][]byte {
	var out [][]byte
	for range 2 {
		for i := range three {
			f, _, _ := frame.Decode(b, places[i])
			out = append(out, f.Payload)
		}
		frames, _, _ := frame.Scan(b)
		for _, f := range frames {
			out = append(out, f.Payload)
		}
		for _, f := range frame.All(b) {
			out = append(out, f.Payload)
		}
	}
	return out
}

// TestPayloadsAreNewP13_1: each payload is its own memory, its spare room too.
func TestPayloadsAreNewP13_1(t *testing.T) {
	b, places := list(t, three)
	was := bytes.Clone(b)
	payloads := answers(b, places)
	if len(payloads) != 18 {
		t.Fatalf("%d payloads", len(payloads))
	}
	for i, p := range payloads {
		wreck(p)
		wreck(append(p, 1, 2, 3, 4, 5, 6, 7, 8, 9, 10, 11, 12))
		for j, other := range payloads[i+1:] {
			if !bytes.Equal(other, three[(i+1+j)%3].Payload) {
				t.Fatalf("P13.1: payload %d is %x, when %d is written over", i+1+j, other, i)
			}
		}
	}
	if !bytes.Equal(b, was) {
		t.Errorf("P13.1: the bytes are %x now, were %x", b, was)
	}
}

// TestNoRoomP13_1: a payload has no room behind it, so that what is laid behind it always goes elsewhere.
func TestNoRoomP13_1(t *testing.T) {
	for n := range 70 {
		b := encoded(t, 1, make([]byte, n))
		f, _, _ := frame.Decode(b, 0)
		frames, _, _ := frame.Scan(b)
		for _, p := range [][]byte{f.Payload, frames[0].Payload} {
			if len(p) != n || cap(p) != n {
				t.Errorf("P13.1: a payload of %d bytes has %d, and room for %d", n, len(p), cap(p))
			}
		}
	}
}

// TestPayloadsStayP13_1: payloads stay as they are when the bytes they were read from change.
func TestPayloadsStayP13_1(t *testing.T) {
	b, places := list(t, three)
	payloads := answers(b, places)
	wreck(b)
	for i, p := range payloads {
		if !bytes.Equal(p, three[i%3].Payload) {
			t.Errorf("P13.1: payload %d is %x now", i, p)
		}
	}
}

// TestListsAreNewP13_1: the lists of two scans share nothing, their spare room neither.
func TestListsAreNewP13_1(t *testing.T) {
	b, _ := list(t, three)
	one, _, _ := frame.Scan(b)
	two, _, _ := frame.Scan(b)
	more := append(one, api.Frame{Kind: 77})
	again := append(two, api.Frame{Kind: 88})
	one[0] = api.Frame{Kind: 66}
	if !sameFrame(two[0], three[0]) || more[3].Kind != 77 || again[3].Kind != 88 {
		t.Errorf("P13.1: %v, %v", more, again)
	}
}

// TestNilIsEmptyP13_1: nil and no bytes are the same.
func TestNilIsEmptyP13_1(t *testing.T) {
	for _, none := range [][]byte{nil, {}, make([]byte, 0, 40), modelEncode(1, nil)[:0]} {
		if frame.Sum(none) != 0 {
			t.Errorf("P13.1: Sum of nothing = %#x", frame.Sum(none))
		}
		encoded(t, 4, none)
		wantNone(t, "P13.1: nothing", none, 0, api.TailNone)
		wantNone(t, "P13.1: nothing", none, 1, api.TailShort)
		wantScan(t, "nothing", none)
	}
	wantFrame(t, "P13.1: no payload", modelEncode(4, nil), 0, api.Frame{Kind: 4, Payload: []byte{}})
}

// TestNoPanicP13_1: any bytes, any place.
func TestNoPanicP13_1(t *testing.T) {
	r := chance(14)
	places := []int{math.MinInt, math.MinInt + 1, -1, 0, 1, 5, 6, 9, 10, 11, math.MaxInt - 10, math.MaxInt - 1, math.MaxInt}
	for range 3000 {
		b := some(r, r.IntN(40))
		if len(b) > 0 {
			b[0] = 0xa5
		}
		if len(b) > 5 {
			copy(b[2:], []byte{0, 0, 0, byte(r.IntN(40))})
		}
		for _, at := range append(places, r.Int(), -r.Int()) {
			f, next, tail := frame.Decode(b, at)
			want, wantNext, wantTail := modelDecode(b, at)
			if !sameFrame(f, want) || next != wantNext || tail != wantTail {
				t.Fatalf("P13.1: Decode(%x, %d) = %v, %d, %d", b, at, f, next, tail)
			}
		}
		wantScan(t, "any bytes", b)
	}
}

// TestTogetherP13_1: the same bytes asked by many hands at once tell all of them the same.
func TestTogetherP13_1(t *testing.T) {
	b, _ := list(t, three)
	all := frame.All(b)
	told := make(chan string)
	for range 8 {
		go func() {
			var got []byte
			for range 50 {
				for at, f := range all {
					got = append(append(got, byte(at), f.Kind), f.Payload...)
				}
				frames, end, tail := frame.Scan(b)
				got = append(got, byte(len(frames)), byte(end), byte(tail))
			}
			told <- string(got)
		}()
	}
	want := <-told
	for range 7 {
		if got := <-told; got != want {
			t.Errorf("P13.1: %x, want %x", got, want)
		}
	}
}

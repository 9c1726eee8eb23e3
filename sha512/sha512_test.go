package sha512_test

import (
	"bytes"
	stdsha512 "crypto/sha512"
	"encoding"
	"encoding/binary"
	"encoding/hex"
	"math"
	"math/big"
	"math/rand/v2"
	"strings"
	"testing"

	"farebox/api"
	"farebox/sha512"
)

// edgeLengths are lengths of messages at which the padding takes its turns, and those beside them.
var edgeLengths = []int{0, 1, 2, 3, 63, 64, 65, 110, 111, 112, 113, 119, 120, 126, 127, 128, 129, 130, 238, 239, 240, 241, 254, 255, 256, 257, 367, 368, 383, 384, 385, 1000, 4096}

// chance is a source of numbers that are the same in every run.
func chance(n uint64) *rand.Rand { return rand.New(rand.NewPCG(3, n)) }

// someBytes is n bytes of chance.
func someBytes(r *rand.Rand, n int) []byte {
	b := make([]byte, n)
	for i := range b {
		b[i] = byte(r.Uint64())
	}
	return b
}

// someBlocks are blocks of zeros, of ones, with a single bit each, and of chance.
func someBlocks() [][128]byte {
	r := chance(1)
	blocks := [][128]byte{{}, [128]byte(bytes.Repeat([]byte{0xff}, 128))}
	for bit := range 1024 {
		var b [128]byte
		b[bit/8] = 0x80 >> (bit % 8)
		blocks = append(blocks, b)
	}
	for range 50 {
		blocks = append(blocks, [128]byte(someBytes(r, 128)))
	}
	return blocks
}

// someStates are states of zeros, of ones, the first one, and of chance.
func someStates() [][8]uint64 {
	r := chance(2)
	states := [][8]uint64{{}, firstState()}
	var ones [8]uint64
	for i := range ones {
		ones[i] = math.MaxUint64
	}
	states = append(states, ones)
	for range 20 {
		var s [8]uint64
		for i := range s {
			s[i] = r.Uint64()
		}
		states = append(states, s)
	}
	return states
}

// firstState is made from the roots of the primes, as the chapter says what it is.
func firstState() [8]uint64 {
	var state [8]uint64
	prime := int64(1)
	for i := range state {
		for prime++; !big.NewInt(prime).ProbablyPrime(0); prime++ {
		}
		// The root of prime * 2^128 is 2^64 times that of the prime: its low word are the first bits of the fraction.
		scaled := new(big.Int).Lsh(big.NewInt(prime), 128)
		state[i] = scaled.Sqrt(scaled).Uint64()
	}
	return state
}

// turn turns a word to the right.
func turn(x uint64, n int) uint64 { return x>>n | x<<(64-n) }

// wantSchedule lays P3.1 word by word.
func wantSchedule(block [128]byte) [80]uint64 {
	var w [80]uint64
	for i := range 16 {
		w[i] = binary.BigEndian.Uint64(block[8*i:])
	}
	for i := 16; i < 80; i++ {
		x, y := w[i-15], w[i-2]
		w[i] = w[i-16] + w[i-7]
		w[i] += turn(x, 1) ^ turn(x, 8) ^ (x >> 7)
		w[i] += turn(y, 19) ^ turn(y, 61) ^ (y >> 6)
	}
	return w
}

// wantBlock leads a state through a block by the library's hash, whose inner state can be set and read.
func wantBlock(t *testing.T, state [8]uint64, block [128]byte) [8]uint64 {
	t.Helper()
	inner := []byte("sha\x07")
	for _, x := range state {
		inner = binary.BigEndian.AppendUint64(inner, x)
	}
	inner = append(inner, make([]byte, 128)...)
	inner = binary.BigEndian.AppendUint64(inner, 0)
	h := stdsha512.New()
	if err := h.(encoding.BinaryUnmarshaler).UnmarshalBinary(inner); err != nil {
		t.Fatal(err)
	}
	h.Write(block[:])
	outer, err := h.(encoding.BinaryMarshaler).MarshalBinary()
	if err != nil {
		t.Fatal(err)
	}
	for i := range state {
		state[i] = binary.BigEndian.Uint64(outer[4+8*i:])
	}
	return state
}

// wantPad lays P3.3: zeros are put in one by one till the length with the count is a multiple of 128.
func wantPad(length uint64) []byte {
	p := []byte{0x80}
	for (length%128+uint64(len(p))+16)%128 != 0 {
		p = append(p, 0)
	}
	bits := new(big.Int).Mul(new(big.Int).SetUint64(length), big.NewInt(8))
	return append(p, bits.FillBytes(make([]byte, 16))...)
}

// inRoom is a copy of b with known bytes ahead of it and behind it, within its capacity; whole is all of that memory.
func inRoom(b []byte) (list, whole []byte) {
	whole = bytes.Repeat([]byte{0xa5}, len(b)+400)
	copy(whole[200:], b)
	return whole[200 : 200+len(b)], whole
}

// spoil writes over all memory of a list, its spare room too.
func spoil(b []byte) {
	b = b[:cap(b)]
	for i := range b {
		b[i] ^= 0xff
	}
}

func TestScheduleP31(t *testing.T) {
	for _, block := range someBlocks() {
		if got, want := sha512.Schedule(block), wantSchedule(block); got != want {
			t.Fatalf("Schedule(%x) = %016x, want %016x", block, got, want)
		}
	}
}

func TestBlockP32(t *testing.T) {
	blocks := someBlocks()
	for i, state := range someStates() {
		for _, block := range blocks[i%9*128:] {
			if got, want := sha512.Block(state, block), wantBlock(t, state, block); got != want {
				t.Fatalf("Block(%016x, %x) = %016x, want %016x", state, block, got, want)
			}
		}
	}
}

func TestPadExamplesP33(t *testing.T) {
	zeros := func(n int) string { return strings.Repeat("00", n) }
	for _, c := range []struct {
		length uint64
		want   string
	}{
		{0, "80" + zeros(127)},
		{3, "80" + zeros(123) + "18"},
		{110, "80" + zeros(15) + "0370"},
		{111, "80" + zeros(14) + "0378"},
		{112, "80" + zeros(141) + "0380"},
		{127, "80" + zeros(126) + "03f8"},
		{128, "80" + zeros(125) + "0400"},
		{239, "80" + zeros(14) + "0778"},
		{240, "80" + zeros(141) + "0780"},
		{1<<61 - 1, "80" + zeros(120) + "fffffffffffffff8"},
		{1 << 61, "80" + zeros(118) + "010000000000000000"},
		{1<<62 + 1, "80" + zeros(117) + "020000000000000008"},
		{1 << 63, "80" + zeros(118) + "040000000000000000"},
		{18446744073709551599, "80" + zeros(7) + "07ffffffffffffff78"},
		{18446744073709551600, "80" + zeros(134) + "07ffffffffffffff80"},
		{18446744073709551615, "80" + zeros(119) + "07fffffffffffffff8"},
	} {
		if got := hex.EncodeToString(sha512.Pad(c.length)); got != c.want {
			t.Errorf("Pad(%d) = %s, want %s", c.length, got, c.want)
		}
	}
}

func TestPadAnyLengthP33(t *testing.T) {
	r := chance(3)
	var lengths []uint64
	for near := range uint64(400) {
		lengths = append(lengths, near, 1<<32+near-200, 1<<61+near-200, 1<<62+near-200, 1<<63+near-200, math.MaxUint64-near)
	}
	for range 200 {
		lengths = append(lengths, r.Uint64()>>r.IntN(64))
	}
	for _, n := range lengths {
		got, want := sha512.Pad(n), wantPad(n)
		if !bytes.Equal(got, want) {
			t.Fatalf("Pad(%d) = %x, want %x", n, got, want)
		}
		if len(got) < 17 || len(got) > 144 {
			t.Fatalf("Pad(%d) has %d bytes", n, len(got))
		}
		spoil(got)
		if !bytes.Equal(sha512.Pad(n), want) {
			t.Fatalf("Pad(%d) changes with an answer that was written over", n)
		}
	}
}

func TestSumExamplesP34(t *testing.T) {
	for _, c := range []struct{ message, want string }{
		{"", "cf83e1357eefb8bdf1542850d66d8007d620e4050b5715dc83f4a921d36ce9ce" +
			"47d0d13c5d85f2b0ff8318d2877eec2f63b931bd47417a81a538327af927da3e"},
		{"abc", "ddaf35a193617abacc417349ae20413112e6fa4e89a97ea20a9eeee64b55d39a" +
			"2192992a274fc1a836ba3c23a3feebbd454d4423643ce80e2a9ac94fa54ca49f"},
		{"abcdefghbcdefghicdefghijdefghijkefghijklfghijklmghijklmnhijklmnoijklmnopjklmnopqklmnopqrlmnopqrsmnopqrstnopqrstu",
			"8e959b75dae313da8cf4f72814fc143f8f7779c6eb9f7fa17299aeadb6889018" +
				"501d289e4900f7e4331b99dec4b5433ac7d329eeb6dd26545e96e55b874be909"},
	} {
		got := sha512.Sum([]byte(c.message))
		if hex.EncodeToString(got[:]) != c.want {
			t.Errorf("Sum(%q) = %x, want %s", c.message, got, c.want)
		}
	}
	if sha512.Sum(nil) != sha512.Sum([]byte{}) {
		t.Error("Sum(nil) is not Sum of an empty list")
	}
}

func TestSumP34(t *testing.T) {
	r := chance(4)
	lengths := append([]int(nil), edgeLengths...)
	for n := range 600 {
		lengths = append(lengths, n)
	}
	for _, n := range lengths {
		message := someBytes(r, n)
		if got, want := sha512.Sum(message), api.Wide(stdsha512.Sum512(message)); got != want {
			t.Errorf("Sum of %d bytes = %x, want %x", n, got, want)
		}
	}
}

func TestNewP35(t *testing.T) {
	d := sha512.New()
	if d.Len() != 0 || d.Sum() != sha512.Sum(nil) {
		t.Errorf("a new digest: Len %d, Sum %x", d.Len(), d.Sum())
	}
	d.Write(nil)
	d.Write([]byte{})
	if d.Len() != 0 || d.Sum() != sha512.Sum(nil) {
		t.Errorf("behind empty pieces: Len %d, Sum %x", d.Len(), d.Sum())
	}
}

func TestDigestExampleP35(t *testing.T) {
	d := sha512.New()
	d.Write([]byte("ab"))
	if d.Sum() != api.Wide(stdsha512.Sum512([]byte("ab"))) {
		t.Errorf("behind ab: %x", d.Sum())
	}
	d.Write([]byte("c"))
	if d.Sum() != api.Wide(stdsha512.Sum512([]byte("abc"))) || d.Len() != 3 {
		t.Errorf("behind abc: %x, %d", d.Sum(), d.Len())
	}
}

// TestSumChangesNothingP35 asks for the sum behind every byte, twice.
func TestSumChangesNothingP35(t *testing.T) {
	message := someBytes(chance(5), 500)
	d := sha512.New()
	for n := range message {
		want := api.Wide(stdsha512.Sum512(message[:n]))
		if d.Sum() != want || d.Sum() != want || d.Len() != uint64(n) {
			t.Fatalf("behind %d bytes: Sum %x, want %x; Len %d", n, d.Sum(), want, d.Len())
		}
		d.Write(message[n : n+1])
	}
}

func TestCloneP35(t *testing.T) {
	r := chance(6)
	for _, n := range edgeLengths {
		for _, more := range []int{0, 1, 17, 127, 128, 129, 400} {
			start, left, right := someBytes(r, n), someBytes(r, more), someBytes(r, more+3)
			d := sha512.New()
			d.Write(start)
			twin := d.Clone()
			if twin == d || twin.Len() != d.Len() || twin.Sum() != sha512.Sum(start) {
				t.Fatalf("a clone behind %d bytes: Len %d, Sum %x", n, twin.Len(), twin.Sum())
			}
			// By turns, so that memory that is held in common would show.
			d.Write(left[:more/2])
			twin.Write(right[:more/2])
			d.Write(left[more/2:])
			twin.Write(right[more/2:])
			wantLeft := sha512.Sum(append(append([]byte(nil), start...), left...))
			wantRight := sha512.Sum(append(append([]byte(nil), start...), right...))
			if d.Sum() != wantLeft || twin.Sum() != wantRight {
				t.Fatalf("a digest and its clone behind %d and %d bytes", n, more)
			}
			if d.Len() != uint64(n+more) || twin.Len() != uint64(n+more+3) {
				t.Fatalf("lengths of a digest and its clone: %d, %d", d.Len(), twin.Len())
			}
			d.Reset()
			if twin.Sum() != wantRight || twin.Len() != uint64(n+more+3) {
				t.Fatal("Reset of a digest has touched its clone")
			}
		}
	}
}

func TestTwoDigestsShareNothingP35(t *testing.T) {
	a, b := sha512.New(), sha512.New()
	for range 150 {
		a.Write([]byte("a"))
		b.Write([]byte("bb"))
	}
	if a.Sum() != sha512.Sum(bytes.Repeat([]byte("a"), 150)) || b.Sum() != sha512.Sum(bytes.Repeat([]byte("b"), 300)) {
		t.Error("two digests that are written by turns")
	}
}

func TestResetP35(t *testing.T) {
	r := chance(7)
	for _, n := range edgeLengths {
		d := sha512.New()
		d.Write(someBytes(r, n))
		d.Sum()
		d.Reset()
		if d.Len() != 0 || d.Sum() != sha512.Sum(nil) {
			t.Fatalf("Reset behind %d bytes: Len %d, Sum %x", n, d.Len(), d.Sum())
		}
		message := someBytes(r, n+5)
		d.Write(message)
		if d.Len() != uint64(n+5) || d.Sum() != sha512.Sum(message) {
			t.Fatalf("written on behind a Reset: Len %d, Sum %x", d.Len(), d.Sum())
		}
	}
}

func TestCutInTwoP36(t *testing.T) {
	message := someBytes(chance(8), 400)
	for n := range len(message) + 1 {
		whole := sha512.Sum(message[:n])
		for cut := range n + 1 {
			d := sha512.New()
			d.Write(message[:cut])
			d.Write(message[cut:n])
			if d.Sum() != whole || d.Len() != uint64(n) {
				t.Fatalf("%d bytes cut at %d", n, cut)
			}
		}
	}
}

func TestCutInPiecesP36(t *testing.T) {
	r := chance(9)
	for range 300 {
		message := someBytes(r, r.IntN(2500))
		d := sha512.New()
		at := 0
		for at < len(message) {
			n := min(r.IntN([]int{2, 20, 140, 400}[r.IntN(4)]), len(message)-at)
			d.Write(message[at : at+n])
			at += n
			if r.IntN(3) == 0 && d.Sum() != sha512.Sum(message[:at]) {
				t.Fatalf("a Sum in between, behind %d bytes", at)
			}
		}
		if want := api.Wide(stdsha512.Sum512(message)); d.Sum() != want || d.Len() != uint64(len(message)) {
			t.Fatalf("%d bytes in pieces: %x, want %x", len(message), d.Sum(), want)
		}
	}
}

func TestBlocksComeToSumP36(t *testing.T) {
	r := chance(10)
	for _, n := range edgeLengths {
		message := someBytes(r, n)
		padded := append(append([]byte(nil), message...), sha512.Pad(uint64(n))...)
		if len(padded)%128 != 0 {
			t.Fatalf("%d bytes with their padding are %d", n, len(padded))
		}
		state := firstState()
		for at := 0; at < len(padded); at += 128 {
			state = sha512.Block(state, [128]byte(padded[at:]))
		}
		var got []byte
		for _, x := range state {
			got = binary.BigEndian.AppendUint64(got, x)
		}
		if sha512.Sum(message) != api.Wide(got) {
			t.Errorf("the blocks of %d bytes come to %x", n, got)
		}
	}
}

// TestHandedIn: what is handed in is neither changed nor kept, the room behind it included.
func TestHandedIn(t *testing.T) {
	r := chance(11)
	for _, n := range edgeLengths {
		message := someBytes(r, n)
		list, whole := inRoom(message)
		before := append([]byte(nil), whole...)
		sum := sha512.Sum(list)
		d := sha512.New()
		d.Write(list)
		twin := d.Clone()
		d.Sum()
		if !bytes.Equal(whole, before) {
			t.Fatalf("%d bytes: what was handed in is changed", n)
		}
		spoil(whole)
		if d.Sum() != sum || twin.Sum() != sum {
			t.Fatalf("%d bytes: a digest changes with what was handed to it", n)
		}
		d.Write([]byte("more"))
		if d.Sum() != sha512.Sum(append(message, "more"...)) {
			t.Fatalf("%d bytes: a digest goes on with what was written over", n)
		}
	}
}

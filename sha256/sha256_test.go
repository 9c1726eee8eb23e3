package sha256_test

import (
	"bytes"
	stdsha256 "crypto/sha256"
	"encoding"
	"encoding/binary"
	"encoding/hex"
	"math"
	"math/big"
	"math/rand/v2"
	"strings"
	"testing"

	"farebox/api"
	"farebox/sha256"
)

// edgeLengths are lengths of messages at which the padding takes its turns, and those beside them.
var edgeLengths = []int{0, 1, 2, 3, 54, 55, 56, 57, 62, 63, 64, 65, 118, 119, 120, 121, 127, 128, 129, 183, 184, 191, 192, 193, 1000, 4096}

// chance is a source of numbers that are the same in every run.
func chance(n uint64) *rand.Rand { return rand.New(rand.NewPCG(2, n)) }

// someBytes is n bytes of chance.
func someBytes(r *rand.Rand, n int) []byte {
	b := make([]byte, n)
	for i := range b {
		b[i] = byte(r.Uint32())
	}
	return b
}

// someBlocks are blocks of zeros, of ones, with a single bit each, and of chance.
func someBlocks() [][64]byte {
	r := chance(1)
	blocks := [][64]byte{{}, [64]byte(bytes.Repeat([]byte{0xff}, 64))}
	for bit := range 512 {
		var b [64]byte
		b[bit/8] = 0x80 >> (bit % 8)
		blocks = append(blocks, b)
	}
	for range 50 {
		blocks = append(blocks, [64]byte(someBytes(r, 64)))
	}
	return blocks
}

// someStates are states of zeros, of ones, the first one, and of chance.
func someStates() [][8]uint32 {
	r := chance(2)
	states := [][8]uint32{{}, firstState()}
	var ones [8]uint32
	for i := range ones {
		ones[i] = math.MaxUint32
	}
	states = append(states, ones)
	for range 20 {
		var s [8]uint32
		for i := range s {
			s[i] = r.Uint32()
		}
		states = append(states, s)
	}
	return states
}

// firstState is made from the roots of the primes, as the chapter says what it is.
func firstState() [8]uint32 {
	var state [8]uint32
	prime := int64(1)
	for i := range state {
		for prime++; !big.NewInt(prime).ProbablyPrime(0); prime++ {
		}
		// The root of prime * 2^64 is 2^32 times that of the prime: its low word are the first bits of the fraction.
		scaled := new(big.Int).Lsh(big.NewInt(prime), 64)
		state[i] = uint32(scaled.Sqrt(scaled).Uint64())
	}
	return state
}

// turn turns a word to the right.
func turn(x uint32, n int) uint32 { return x>>n | x<<(32-n) }

// wantSchedule lays P2.1 word by word.
func wantSchedule(block [64]byte) [64]uint32 {
	var w [64]uint32
	for i := range 16 {
		w[i] = binary.BigEndian.Uint32(block[4*i:])
	}
	for i := 16; i < 64; i++ {
		x, y := w[i-15], w[i-2]
		w[i] = w[i-16] + w[i-7]
		w[i] += turn(x, 7) ^ turn(x, 18) ^ (x >> 3)
		w[i] += turn(y, 17) ^ turn(y, 19) ^ (y >> 10)
	}
	return w
}

// wantBlock leads a state through a block by the library's hash, whose inner state can be set and read.
func wantBlock(t *testing.T, state [8]uint32, block [64]byte) [8]uint32 {
	t.Helper()
	inner := []byte("sha\x03")
	for _, x := range state {
		inner = binary.BigEndian.AppendUint32(inner, x)
	}
	inner = append(inner, make([]byte, 64)...)
	inner = binary.BigEndian.AppendUint64(inner, 0)
	h := stdsha256.New()
	if err := h.(encoding.BinaryUnmarshaler).UnmarshalBinary(inner); err != nil {
		t.Fatal(err)
	}
	h.Write(block[:])
	outer, err := h.(encoding.BinaryMarshaler).MarshalBinary()
	if err != nil {
		t.Fatal(err)
	}
	for i := range state {
		state[i] = binary.BigEndian.Uint32(outer[4+4*i:])
	}
	return state
}

// wantPad lays P2.3: zeros are put in one by one till the length with the count is a multiple of 64.
func wantPad(length uint64) []byte {
	p := []byte{0x80}
	for (length%64+uint64(len(p))+8)%64 != 0 {
		p = append(p, 0)
	}
	bits := new(big.Int).Mul(new(big.Int).SetUint64(length), big.NewInt(8))
	bits.Mod(bits, new(big.Int).Lsh(big.NewInt(1), 64))
	return append(p, bits.FillBytes(make([]byte, 8))...)
}

// inRoom is a copy of b with known bytes ahead of it and behind it, within its capacity; whole is all of that memory.
func inRoom(b []byte) (list, whole []byte) {
	whole = bytes.Repeat([]byte{0xa5}, len(b)+200)
	copy(whole[100:], b)
	return whole[100 : 100+len(b)], whole
}

// spoil writes over all memory of a list, its spare room too.
func spoil(b []byte) {
	b = b[:cap(b)]
	for i := range b {
		b[i] ^= 0xff
	}
}

func TestScheduleP21(t *testing.T) {
	for _, block := range someBlocks() {
		if got, want := sha256.Schedule(block), wantSchedule(block); got != want {
			t.Fatalf("Schedule(%x) = %08x, want %08x", block, got, want)
		}
	}
}

func TestBlockP22(t *testing.T) {
	blocks := someBlocks()
	for i, state := range someStates() {
		for _, block := range blocks[i%7*64:] {
			if got, want := sha256.Block(state, block), wantBlock(t, state, block); got != want {
				t.Fatalf("Block(%08x, %x) = %08x, want %08x", state, block, got, want)
			}
		}
	}
}

func TestPadExamplesP23(t *testing.T) {
	zeros := func(n int) string { return strings.Repeat("00", n) }
	for _, c := range []struct {
		length uint64
		want   string
	}{
		{0, "80" + zeros(63)},
		{3, "80" + zeros(52) + "0000000000000018"},
		{55, "8000000000000001b8"},
		{56, "80" + zeros(63) + "00000000000001c0"},
		{63, "80" + zeros(56) + "00000000000001f8"},
		{64, "80" + zeros(55) + "0000000000000200"},
		{119, "8000000000000003b8"},
		{120, "80" + zeros(63) + "00000000000003c0"},
		{1 << 61, "80" + zeros(63)},
		{1<<61 - 1, "80" + zeros(56) + "fffffffffffffff8"},
		{math.MaxUint64, "80" + zeros(56) + "fffffffffffffff8"},
	} {
		if got := hex.EncodeToString(sha256.Pad(c.length)); got != c.want {
			t.Errorf("Pad(%d) = %s, want %s", c.length, got, c.want)
		}
	}
}

func TestPadAnyLengthP23(t *testing.T) {
	r := chance(3)
	var lengths []uint64
	for near := range uint64(200) {
		lengths = append(lengths, near, 1<<32+near-100, 1<<61+near-100, 1<<63+near-100, math.MaxUint64-near)
	}
	for range 200 {
		lengths = append(lengths, r.Uint64()>>r.IntN(64))
	}
	for _, n := range lengths {
		got, want := sha256.Pad(n), wantPad(n)
		if !bytes.Equal(got, want) {
			t.Fatalf("Pad(%d) = %x, want %x", n, got, want)
		}
		if len(got) < 9 || len(got) > 72 {
			t.Fatalf("Pad(%d) has %d bytes", n, len(got))
		}
		spoil(got)
		if !bytes.Equal(sha256.Pad(n), want) {
			t.Fatalf("Pad(%d) changes with an answer that was written over", n)
		}
	}
}

func TestSumExamplesP24(t *testing.T) {
	for _, c := range []struct{ message, want string }{
		{"", "e3b0c44298fc1c149afbf4c8996fb92427ae41e4649b934ca495991b7852b855"},
		{"abc", "ba7816bf8f01cfea414140de5dae2223b00361a396177a9cb410ff61f20015ad"},
		{"abcdbcdecdefdefgefghfghighijhijkijkljklmklmnlmnomnopnopq", "248d6a61d20638b8e5c026930c3e6039a33ce45964ff2167f6ecedd419db06c1"},
	} {
		got := sha256.Sum([]byte(c.message))
		if hex.EncodeToString(got[:]) != c.want {
			t.Errorf("Sum(%q) = %x, want %s", c.message, got, c.want)
		}
	}
	if sha256.Sum(nil) != sha256.Sum([]byte{}) {
		t.Error("Sum(nil) is not Sum of an empty list")
	}
}

func TestSumP24(t *testing.T) {
	r := chance(4)
	lengths := append([]int(nil), edgeLengths...)
	for n := range 300 {
		lengths = append(lengths, n)
	}
	for _, n := range lengths {
		message := someBytes(r, n)
		if got, want := sha256.Sum(message), api.Hash(stdsha256.Sum256(message)); got != want {
			t.Errorf("Sum of %d bytes = %x, want %x", n, got, want)
		}
	}
}

func TestNewP25(t *testing.T) {
	d := sha256.New()
	if d.Len() != 0 || d.Sum() != sha256.Sum(nil) {
		t.Errorf("a new digest: Len %d, Sum %x", d.Len(), d.Sum())
	}
	d.Write(nil)
	d.Write([]byte{})
	if d.Len() != 0 || d.Sum() != sha256.Sum(nil) {
		t.Errorf("behind empty pieces: Len %d, Sum %x", d.Len(), d.Sum())
	}
}

func TestDigestExampleP25(t *testing.T) {
	d := sha256.New()
	d.Write([]byte("ab"))
	if d.Sum() != api.Hash(stdsha256.Sum256([]byte("ab"))) {
		t.Errorf("behind ab: %x", d.Sum())
	}
	d.Write([]byte("c"))
	if d.Sum() != api.Hash(stdsha256.Sum256([]byte("abc"))) || d.Len() != 3 {
		t.Errorf("behind abc: %x, %d", d.Sum(), d.Len())
	}
}

// TestSumChangesNothingP25 asks for the sum behind every byte, twice.
func TestSumChangesNothingP25(t *testing.T) {
	message := someBytes(chance(5), 300)
	d := sha256.New()
	for n := range message {
		want := api.Hash(stdsha256.Sum256(message[:n]))
		if d.Sum() != want || d.Sum() != want || d.Len() != uint64(n) {
			t.Fatalf("behind %d bytes: Sum %x, want %x; Len %d", n, d.Sum(), want, d.Len())
		}
		d.Write(message[n : n+1])
	}
}

func TestCloneP25(t *testing.T) {
	r := chance(6)
	for _, n := range edgeLengths {
		for _, more := range []int{0, 1, 9, 63, 64, 65, 200} {
			start, left, right := someBytes(r, n), someBytes(r, more), someBytes(r, more+3)
			d := sha256.New()
			d.Write(start)
			twin := d.Clone()
			if twin == d || twin.Len() != d.Len() || twin.Sum() != sha256.Sum(start) {
				t.Fatalf("a clone behind %d bytes: Len %d, Sum %x", n, twin.Len(), twin.Sum())
			}
			// By turns, so that memory that is held in common would show.
			d.Write(left[:more/2])
			twin.Write(right[:more/2])
			d.Write(left[more/2:])
			twin.Write(right[more/2:])
			wantLeft := sha256.Sum(append(append([]byte(nil), start...), left...))
			wantRight := sha256.Sum(append(append([]byte(nil), start...), right...))
			if d.Sum() != wantLeft || twin.Sum() != wantRight {
				t.Fatalf("a digest and its clone behind %d and %d bytes", n, more)
			}
			if d.Len() != uint64(n+more) || twin.Len() != uint64(n+more+3) {
				t.Fatalf("lengths of a digest and its clone: %d, %d", d.Len(), twin.Len())
			}
			d.Reset()
			if twin.Sum() != wantRight || twin.Len() != uint64(n+more+3) {
				t.Fatal("Reset of a digest has touched its clone")
			}
		}
	}
}

func TestTwoDigestsShareNothingP25(t *testing.T) {
	a, b := sha256.New(), sha256.New()
	for range 100 {
		a.Write([]byte("a"))
		b.Write([]byte("bb"))
	}
	if a.Sum() != sha256.Sum(bytes.Repeat([]byte("a"), 100)) || b.Sum() != sha256.Sum(bytes.Repeat([]byte("b"), 200)) {
		t.Error("two digests that are written by turns")
	}
}

func TestResetP25(t *testing.T) {
	r := chance(7)
	for _, n := range edgeLengths {
		d := sha256.New()
		d.Write(someBytes(r, n))
		d.Sum()
		d.Reset()
		if d.Len() != 0 || d.Sum() != sha256.Sum(nil) {
			t.Fatalf("Reset behind %d bytes: Len %d, Sum %x", n, d.Len(), d.Sum())
		}
		message := someBytes(r, n+5)
		d.Write(message)
		if d.Len() != uint64(n+5) || d.Sum() != sha256.Sum(message) {
			t.Fatalf("written on behind a Reset: Len %d, Sum %x", d.Len(), d.Sum())
		}
	}
}

func TestCutInTwoP26(t *testing.T) {
	message := someBytes(chance(8), 260)
	for n := range len(message) + 1 {
		whole := sha256.Sum(message[:n])
		for cut := range n + 1 {
			d := sha256.New()
			d.Write(message[:cut])
			d.Write(message[cut:n])
			if d.Sum() != whole || d.Len() != uint64(n) {
				t.Fatalf("%d bytes cut at %d", n, cut)
			}
		}
	}
}

func TestCutInPiecesP26(t *testing.T) {
	r := chance(9)
	for range 300 {
		message := someBytes(r, r.IntN(1500))
		d := sha256.New()
		at := 0
		for at < len(message) {
			n := min(r.IntN([]int{2, 20, 70, 200}[r.IntN(4)]), len(message)-at)
			d.Write(message[at : at+n])
			at += n
			if r.IntN(3) == 0 && d.Sum() != sha256.Sum(message[:at]) {
				t.Fatalf("a Sum in between, behind %d bytes", at)
			}
		}
		if want := api.Hash(stdsha256.Sum256(message)); d.Sum() != want || d.Len() != uint64(len(message)) {
			t.Fatalf("%d bytes in pieces: %x, want %x", len(message), d.Sum(), want)
		}
	}
}

func TestBlocksComeToSumP26(t *testing.T) {
	r := chance(10)
	for _, n := range edgeLengths {
		message := someBytes(r, n)
		padded := append(append([]byte(nil), message...), sha256.Pad(uint64(n))...)
		if len(padded)%64 != 0 {
			t.Fatalf("%d bytes with their padding are %d", n, len(padded))
		}
		state := firstState()
		for at := 0; at < len(padded); at += 64 {
			state = sha256.Block(state, [64]byte(padded[at:]))
		}
		var got []byte
		for _, x := range state {
			got = binary.BigEndian.AppendUint32(got, x)
		}
		if sha256.Sum(message) != api.Hash(got) {
			t.Errorf("the blocks of %d bytes come to %x", n, got)
		}
	}
}

// TestHandedIn: what is handed in is neither changed nor kept, the room behind it included.
func TestHandedIn(t *testing.T) {
	r := chance(11)
	for _, n := range edgeLengths {
		message := someBytes(r, n)
		list, whole := inRoom(message)
		before := append([]byte(nil), whole...)
		sum := sha256.Sum(list)
		d := sha256.New()
		d.Write(list)
		twin := d.Clone()
		d.Sum()
		if !bytes.Equal(whole, before) {
			t.Fatalf("%d bytes: what was handed in is changed", n)
		}
		spoil(whole)
		if d.Sum() != sum || twin.Sum() != sum {
			t.Fatalf("%d bytes: a digest changes with what was handed to it", n)
		}
		d.Write([]byte("more"))
		if d.Sum() != sha256.Sum(append(message, "more"...)) {
			t.Fatalf("%d bytes: a digest goes on with what was written over", n)
		}
	}
}

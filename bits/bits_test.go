package bits_test

import (
	"bytes"
	"encoding/binary"
	"encoding/hex"
	"math"
	"math/rand/v2"
	"slices"
	"strings"
	"testing"

	"farebox/bits"
)

// places are numbers of places around 0, around both widths and their multiples, and at both ends of int.
var places = []int{
	math.MinInt, math.MinInt + 1, math.MinInt + 31, math.MinInt + 33,
	-1 << 40, -129, -128, -127, -65, -64, -63, -33, -32, -31, -8, -1,
	0, 1, 7, 8, 31, 32, 33, 63, 64, 65, 127, 128, 129, 1 << 40,
	math.MaxInt - 64, math.MaxInt - 32, math.MaxInt - 1, math.MaxInt,
}

// words32 and words64 have their bits at the ends, in the middle and everywhere.
var words32 = []uint32{0, 1, 2, 5, 0x80000000, 0x80000001, 0x12345678, 0xdeadbeef, 0x0000ffff, 0x7fffffff, math.MaxUint32}
var words64 = []uint64{0, 1, 2, 5, 1 << 31, 1 << 32, 1 << 63, 1<<63 | 1, 0x0123456789abcdef, 0xdeadbeef00c0ffee, math.MaxUint32, math.MaxInt64, math.MaxUint64}

// outOfReach are places at which no word stands, in a list of any length that is used here.
var outOfReach = []int{math.MinInt, math.MinInt + 1, math.MinInt + 8, -9, -8, -5, -4, -1, 1000, math.MaxInt - 8, math.MaxInt - 7, math.MaxInt - 4, math.MaxInt - 3, math.MaxInt}

// samples are lists of bytes: none, single ones, all bytes, and some of every small length.
func samples() [][]byte {
	r := rand.New(rand.NewPCG(1, 1))
	all := make([]byte, 256)
	for i := range all {
		all[i] = byte(i)
	}
	out := [][]byte{nil, {}, {0}, {255}, {0, 0}, {1, 2, 3}, all}
	for n := range 40 {
		b := make([]byte, n)
		for i := range b {
			b[i] = byte(r.Uint32())
		}
		out = append(out, b)
	}
	return out
}

// inRoom is a copy of b with known bytes ahead of it and behind it, within its capacity; whole is all of that memory.
func inRoom(b []byte) (list, whole []byte) {
	whole = bytes.Repeat([]byte{0xa5}, len(b)+32)
	copy(whole[16:], b)
	return whole[16 : 16+len(b)], whole
}

// spoil writes over all memory of an answer, its spare room too.
func spoil(b []byte) {
	b = b[:cap(b)]
	for i := range b {
		b[i] ^= 0xff
	}
}

// turned lays bit by bit what P1.2 says: the bit at place i comes to place (i + n) modulo the width.
func turned(x uint64, n, width int) uint64 {
	shift := n % width
	if shift < 0 {
		shift += width
	}
	var out uint64
	for i := range width {
		if x>>i&1 == 1 {
			out |= 1 << ((i + shift) % width)
		}
	}
	return out
}

// back is turned, towards the low end.
func back(x uint64, n, width int) uint64 {
	shift := n % width
	return turned(x, -shift, width)
}

func TestTurn32(t *testing.T) {
	for _, x := range words32 {
		for _, n := range places {
			if got, want := bits.RotL(x, n), uint32(turned(uint64(x), n, 32)); got != want {
				t.Errorf("P1.2: RotL(%#x, %d) = %#x, want %#x", x, n, got, want)
			}
			if got, want := bits.RotR(x, n), uint32(back(uint64(x), n, 32)); got != want {
				t.Errorf("P1.2: RotR(%#x, %d) = %#x, want %#x", x, n, got, want)
			}
		}
	}
}

func TestTurn64(t *testing.T) {
	for _, x := range words64 {
		for _, n := range places {
			if got, want := bits.RotL(x, n), turned(x, n, 64); got != want {
				t.Errorf("P1.2: RotL(%#x, %d) = %#x, want %#x", x, n, got, want)
			}
			if got, want := bits.RotR(x, n), back(x, n, 64); got != want {
				t.Errorf("P1.2: RotR(%#x, %d) = %#x, want %#x", x, n, got, want)
			}
		}
	}
}

func TestTurnExamples(t *testing.T) {
	for _, c := range []struct{ got, want uint64 }{
		{uint64(bits.RotL(uint32(0x80000001), 1)), 0x00000003},
		{uint64(bits.RotL(uint32(0x80000001), 33)), 0x00000003},
		{uint64(bits.RotL(uint32(0x80000001), -1)), 0xc0000000},
		{uint64(bits.RotL(uint32(0x80000001), math.MinInt)), 0x80000001},
		{uint64(bits.RotR(uint32(0x80000001), math.MinInt)), 0x80000001},
		{bits.RotR(uint64(1), 1), 0x8000000000000000},
		{bits.RotR(uint64(1), 64), 1},
		{bits.RotR(uint64(5), math.MinInt), 5},
		{bits.RotL(uint64(5), math.MinInt), 5},
	} {
		if c.got != c.want {
			t.Errorf("P1.2: %#x, want %#x", c.got, c.want)
		}
	}
}

// checkTurnLaws asks P1.2 and P1.9 of one width.
func checkTurnLaws[T bits.Word](t *testing.T, words []T) {
	t.Helper()
	for _, x := range words {
		for _, n := range places {
			if bits.RotR(x, n) != bits.RotL(x, -n) {
				t.Errorf("P1.2: RotR(%#x, %d) is not RotL by the opposite", x, n)
			}
			for _, m := range places {
				sum := n + m
				if (sum < n) != (m < 0) {
					continue // n + m is no int
				}
				if bits.RotL(bits.RotL(x, n), m) != bits.RotL(x, sum) {
					t.Errorf("P1.9: RotL(%#x) by %d and then %d is not by the sum", x, n, m)
				}
			}
		}
	}
}

func TestTurnLaws(t *testing.T) {
	checkTurnLaws(t, words32)
	checkTurnLaws(t, words64)
}

// checkLoads asks at every place of b, and at places far off it, what the library's reader of the same order says.
func checkLoads[T bits.Word](t *testing.T, name string, load func([]byte, int) (T, bool), size int, want func([]byte) T) {
	t.Helper()
	for _, b := range samples() {
		list, whole := inRoom(b)
		before := bytes.Clone(whole)
		for at := -size - 1; at <= len(b)+1; at++ {
			x, ok := load(list, at)
			stands := at >= 0 && at+size <= len(b)
			if ok != stands {
				t.Errorf("P1.3: %s of %d bytes at %d: %v, want %v", name, len(b), at, ok, stands)
			}
			if !stands && x != 0 {
				t.Errorf("P1.3: %s of %d bytes at %d: %#x beside false", name, len(b), at, x)
			}
			if stands && x != want(b[at:at+size]) {
				t.Errorf("P1.3: %s(%v, %d) = %#x, want %#x", name, b, at, x, want(b[at:at+size]))
			}
		}
		for _, at := range outOfReach {
			if x, ok := load(list, at); x != 0 || ok {
				t.Errorf("P1.3: %s of %d bytes at %d = %#x, %v, want 0, false", name, len(b), at, x, ok)
			}
		}
		if !bytes.Equal(whole, before) {
			t.Errorf("P1.1: %s has changed what it was handed", name)
		}
	}
}

func TestLoads(t *testing.T) {
	checkLoads(t, "LoadBE[uint32]", bits.LoadBE[uint32], 4, binary.BigEndian.Uint32)
	checkLoads(t, "LoadBE[uint64]", bits.LoadBE[uint64], 8, binary.BigEndian.Uint64)
	checkLoads(t, "LoadLE[uint32]", bits.LoadLE[uint32], 4, binary.LittleEndian.Uint32)
	checkLoads(t, "LoadLE[uint64]", bits.LoadLE[uint64], 8, binary.LittleEndian.Uint64)
}

func TestLoadExamples(t *testing.T) {
	five := []byte{1, 2, 3, 4, 5}
	if x, ok := bits.LoadBE[uint32](five, 1); x != 0x02030405 || !ok {
		t.Errorf("P1.3: LoadBE = %#x, %v", x, ok)
	}
	if x, ok := bits.LoadLE[uint32](five, 1); x != 0x05040302 || !ok {
		t.Errorf("P1.3: LoadLE = %#x, %v", x, ok)
	}
	if x, ok := bits.LoadBE[uint32](five, 2); x != 0 || ok {
		t.Errorf("P1.3: LoadBE at 2 of 5 = %#x, %v, want 0, false", x, ok)
	}
	if x, ok := bits.LoadBE[uint32](five[:4], 1); x != 0 || ok {
		t.Errorf("P1.3: LoadBE has read the spare room: %#x, %v", x, ok)
	}
	if x, ok := bits.LoadBE[uint32](five[:4], -1); x != 0 || ok {
		t.Errorf("P1.3: LoadBE at -1 = %#x, %v, want 0, false", x, ok)
	}
}

func TestStores(t *testing.T) {
	for _, x := range words32 {
		if got, want := bits.StoreBE(x), binary.BigEndian.AppendUint32(nil, x); !bytes.Equal(got, want) {
			t.Errorf("P1.4: StoreBE(%#x) = %v, want %v", x, got, want)
		}
		if got, want := bits.StoreLE(x), binary.LittleEndian.AppendUint32(nil, x); !bytes.Equal(got, want) {
			t.Errorf("P1.4: StoreLE(%#x) = %v, want %v", x, got, want)
		}
	}
	for _, x := range words64 {
		if got, want := bits.StoreBE(x), binary.BigEndian.AppendUint64(nil, x); !bytes.Equal(got, want) {
			t.Errorf("P1.4: StoreBE(%#x) = %v, want %v", x, got, want)
		}
		if got, want := bits.StoreLE(x), binary.LittleEndian.AppendUint64(nil, x); !bytes.Equal(got, want) {
			t.Errorf("P1.4: StoreLE(%#x) = %v, want %v", x, got, want)
		}
	}
	if got := bits.StoreBE(uint32(258)); !bytes.Equal(got, []byte{0, 0, 1, 2}) {
		t.Errorf("P1.4: StoreBE(258) = %v", got)
	}
	if got := bits.StoreLE(uint64(258)); !bytes.Equal(got, []byte{2, 1, 0, 0, 0, 0, 0, 0}) {
		t.Errorf("P1.4: StoreLE(258) = %v", got)
	}
}

// checkStoreLaws asks P1.9 of what is stored, and P1.1 of its memory.
func checkStoreLaws[T bits.Word](t *testing.T, words []T) {
	t.Helper()
	for _, x := range words {
		high, low := bits.StoreBE(x), bits.StoreLE(x)
		if got, ok := bits.LoadBE[T](high, 0); got != x || !ok {
			t.Errorf("P1.9: LoadBE of StoreBE(%#x) = %#x, %v", x, got, ok)
		}
		if got, ok := bits.LoadLE[T](low, 0); got != x || !ok {
			t.Errorf("P1.9: LoadLE of StoreLE(%#x) = %#x, %v", x, got, ok)
		}
		round := slices.Clone(high)
		slices.Reverse(round)
		if !bytes.Equal(round, low) {
			t.Errorf("P1.9: StoreLE(%#x) = %v is not StoreBE turned round", x, low)
		}
		kept := slices.Clone(low)
		spoil(high)
		if !bytes.Equal(low, kept) {
			t.Errorf("P1.1: StoreBE and StoreLE share memory")
		}
		for _, store := range []func(T) []byte{bits.StoreBE[T], bits.StoreLE[T]} {
			first, second := store(x), store(x)
			kept := slices.Clone(second)
			spoil(first)
			if !bytes.Equal(second, kept) || !bytes.Equal(store(x), kept) {
				t.Errorf("P1.1: two answers for %#x share memory", x)
			}
		}
	}
}

func TestStoreLaws(t *testing.T) {
	checkStoreLaws(t, words32)
	checkStoreLaws(t, words64)
}

func TestXor(t *testing.T) {
	for _, a := range samples() {
		for _, b := range samples() {
			x, ok := bits.Xor(a, b)
			if ok != (len(a) == len(b)) {
				t.Fatalf("P1.5: Xor of %d and %d bytes: %v", len(a), len(b), ok)
			}
			if !ok {
				if len(x) != 0 {
					t.Errorf("P1.5: Xor of unlike lengths tells %v beside false", x)
				}
				continue
			}
			if len(x) != len(a) {
				t.Fatalf("P1.5: Xor of %d bytes has %d", len(a), len(x))
			}
			for i := range a {
				if x[i] != a[i]^b[i] {
					t.Errorf("P1.5: Xor(%v, %v) = %v", a, b, x)
				}
			}
			if again, ok := bits.Xor(x, b); !ok || !bytes.Equal(again, a) {
				t.Errorf("P1.9: Xor of Xor(%v, %v) and the second is %v", a, b, again)
			}
		}
	}
}

func TestXorExamples(t *testing.T) {
	if x, ok := bits.Xor([]byte{1, 2}, []byte{3, 3}); !bytes.Equal(x, []byte{2, 1}) || !ok {
		t.Errorf("P1.5: Xor = %v, %v", x, ok)
	}
	for _, c := range [][2][]byte{{{1}, {1, 2}}, {{1, 2}, {1}}, {nil, {0}}, {{0}, {}}} {
		if x, ok := bits.Xor(c[0], c[1]); len(x) != 0 || ok {
			t.Errorf("P1.5: Xor(%v, %v) = %v, %v, want none, false", c[0], c[1], x, ok)
		}
	}
	for _, c := range [][2][]byte{{nil, nil}, {nil, {}}, {{}, nil}, {{}, {}}} {
		if x, ok := bits.Xor(c[0], c[1]); len(x) != 0 || !ok {
			t.Errorf("P1.5: Xor of empty lists = %v, %v, want none, true", x, ok)
		}
	}
}

func TestXorMemory(t *testing.T) {
	a, wholeA := inRoom([]byte{1, 2, 3, 4, 5})
	b, wholeB := inRoom([]byte{9, 8, 7, 6, 5})
	beforeA, beforeB := bytes.Clone(wholeA), bytes.Clone(wholeB)
	x, _ := bits.Xor(a, b)
	y, _ := bits.Xor(a, b)
	bits.Xor(a, b[:3])
	want := []byte{8, 10, 4, 2, 0}
	spoil(x)
	if !bytes.Equal(wholeA, beforeA) || !bytes.Equal(wholeB, beforeB) {
		t.Error("P1.1: Xor has changed or answered what it was handed")
	}
	spoil(wholeA)
	spoil(wholeB)
	if !bytes.Equal(y, want) {
		t.Errorf("P1.1: an answer of Xor changed later on: %v", y)
	}
	self, wholeSelf := inRoom([]byte{7, 7})
	before := bytes.Clone(wholeSelf)
	if x, ok := bits.Xor(self, self); !bytes.Equal(x, []byte{0, 0}) || !ok || !bytes.Equal(wholeSelf, before) {
		t.Errorf("P1.5: Xor of a list with itself = %v, %v", x, ok)
	}
}

func TestEqual(t *testing.T) {
	for _, a := range samples() {
		for _, b := range samples() {
			if got, want := bits.Equal(a, b), string(a) == string(b); got != want {
				t.Errorf("P1.6: Equal(%v, %v) = %v", a, b, got)
			}
		}
		for i := range a {
			b := bytes.Clone(a)
			b[i] ^= 0x40
			if bits.Equal(a, b) || bits.Equal(b, a) {
				t.Errorf("P1.6: Equal oversees the byte at %d of %d", i, len(a))
			}
		}
		longer := append(bytes.Clone(a), 0)
		if bits.Equal(a, longer) || bits.Equal(longer, a) || bits.Equal(longer[:len(a)], longer) {
			t.Errorf("P1.6: Equal oversees a byte behind %d", len(a))
		}
		roomy, whole := inRoom(a)
		before := bytes.Clone(whole)
		if !bits.Equal(roomy, a) || !bytes.Equal(whole, before) {
			t.Errorf("P1.6: Equal(%v) hangs on spare room, or changes it", a)
		}
	}
	if !bits.Equal([]byte{}, nil) || !bits.Equal(nil, nil) || bits.Equal([]byte{1}, []byte{1, 0}) || bits.Equal(nil, []byte{0}) {
		t.Error("P1.6: the examples")
	}
}

func TestJoin(t *testing.T) {
	if x := bits.Join([]byte{1}, []byte{}, []byte{2, 3}); !bytes.Equal(x, []byte{1, 2, 3}) {
		t.Errorf("P1.7: Join = %v", x)
	}
	for _, parts := range [][][]byte{nil, {}, {nil}, {{}}, {nil, {}, nil}} {
		if x := bits.Join(parts...); len(x) != 0 {
			t.Errorf("P1.7: Join of nothing = %v", x)
		}
	}
	lists := samples()
	for n := range lists {
		parts := lists[len(lists)-1-n:]
		if got, want := bits.Join(parts...), bytes.Join(parts, nil); !bytes.Equal(got, want) {
			t.Errorf("P1.7: Join of %d lists = %v, want %v", len(parts), got, want)
		}
		if got := bits.Join(lists[n]); !bytes.Equal(got, lists[n]) {
			t.Errorf("P1.7: Join(%v) = %v", lists[n], got)
		}
	}
}

func TestJoinMemory(t *testing.T) {
	a, wholeA := inRoom([]byte{1, 2})
	b, wholeB := inRoom([]byte{3})
	beforeA, beforeB := bytes.Clone(wholeA), bytes.Clone(wholeB)
	for _, parts := range [][][]byte{{a}, {a, b}, {a, a}, {nil, a}, {a, nil}, {a[:0], b}, {a[:1], a[1:], b}} {
		room := append(slices.Clone(parts), []byte{77}) // the list of lists has spare room too
		want := bytes.Join(parts, nil)
		x := bits.Join(room[:len(parts)]...)
		y := bits.Join(room[:len(parts)]...)
		spoil(x)
		if !bytes.Equal(wholeA, beforeA) || !bytes.Equal(wholeB, beforeB) {
			t.Fatalf("P1.1: Join(%v) has changed or answered what it was handed", parts)
		}
		if !bytes.Equal(y, want) {
			t.Errorf("P1.1: two answers of Join share memory: %v, want %v", y, want)
		}
		for i, p := range parts {
			if !bytes.Equal(room[i], p) {
				t.Errorf("P1.1: Join has changed the list of lists at %d", i)
			}
		}
		if !bytes.Equal(room[len(parts)], []byte{77}) {
			t.Error("P1.1: Join has written behind the list of lists")
		}
	}
	x := bits.Join(a, b)
	spoil(wholeA)
	spoil(wholeB)
	if !bytes.Equal(x, []byte{1, 2, 3}) {
		t.Errorf("P1.1: an answer of Join changed with what was handed in: %v", x)
	}
}

func TestHex(t *testing.T) {
	for _, b := range samples() {
		list, whole := inRoom(b)
		before := bytes.Clone(whole)
		s := bits.Hex(list)
		if want := hex.EncodeToString(b); s != want {
			t.Errorf("P1.8: Hex(%v) = %q, want %q", b, s, want)
		}
		if !bytes.Equal(whole, before) {
			t.Error("P1.1: Hex has changed what it was handed")
		}
		spoil(whole)
		if want := hex.EncodeToString(b); s != want {
			t.Errorf("P1.1: an answer of Hex changed with what was handed in: %q", s)
		}
		if got, ok := bits.Unhex(s); !bytes.Equal(got, b) || !ok {
			t.Errorf("P1.9: Unhex of Hex(%v) = %v, %v", b, got, ok)
		}
	}
	if bits.Hex([]byte{0, 171, 16}) != "00ab10" || bits.Hex(nil) != "" || bits.Hex([]byte{}) != "" {
		t.Error("P1.8: the examples of Hex")
	}
}

// TestUnhexPairs asks all texts of two bytes: just the 256 pairs of hex digits are read.
func TestUnhexPairs(t *testing.T) {
	const digits = "0123456789abcdef"
	for high := range 256 {
		for low := range 256 {
			s := string([]byte{byte(high), byte(low)})
			i, j := strings.IndexByte(digits, byte(high)), strings.IndexByte(digits, byte(low))
			got, ok := bits.Unhex(s)
			if i < 0 || j < 0 {
				if ok || len(got) != 0 {
					t.Errorf("P1.8: Unhex(%q) = %v, %v, want none, false", s, got, ok)
				}
				continue
			}
			if !ok || !bytes.Equal(got, []byte{byte(16*i + j)}) {
				t.Errorf("P1.8: Unhex(%q) = %v, %v, want %d, true", s, got, ok, 16*i+j)
			}
			if bits.Hex(got) != s {
				t.Errorf("P1.9: Hex of what Unhex(%q) reads is %q", s, bits.Hex(got))
			}
		}
	}
}

func TestUnhexRefusals(t *testing.T) {
	for _, s := range []string{
		"0", "a", "012", "00ab1", "0A", "A0", "AB", "aB", "DEADBEEF", "0g", "g0", "0G",
		"0x10", " 00", "00 ", "00\n", "0 0", "\x00\x00", "00ab1g", "g0ab10", "00g010",
		"é", "éé", "٠١", "00é", "\xff\xff", "０", "０a", "-1", "+1", "00\x0000",
	} {
		if b, ok := bits.Unhex(s); len(b) != 0 || ok {
			t.Errorf("P1.8: Unhex(%q) = %v, %v, want none, false", s, b, ok)
		}
	}
	if b, ok := bits.Unhex(""); len(b) != 0 || !ok {
		t.Errorf("P1.8: Unhex of nothing = %v, %v, want none, true", b, ok)
	}
	if b, ok := bits.Unhex("00ab10"); !bytes.Equal(b, []byte{0, 171, 16}) || !ok {
		t.Errorf("P1.8: Unhex(00ab10) = %v, %v", b, ok)
	}
	long := strings.Repeat("00ff", 5000)
	if b, ok := bits.Unhex(long); !ok || bits.Hex(b) != long {
		t.Errorf("P1.9: Hex of what Unhex reads of %d letters is another text", len(long))
	}
}

func TestUnhexMemory(t *testing.T) {
	first, _ := bits.Unhex("00ab10")
	second, _ := bits.Unhex("00ab10")
	spoil(first)
	if again, _ := bits.Unhex("00ab10"); !bytes.Equal(second, []byte{0, 171, 16}) || !bytes.Equal(again, second) {
		t.Errorf("P1.1: answers of Unhex share memory: %v, %v", second, again)
	}
}

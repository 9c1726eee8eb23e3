package mac_test

import (
	"bytes"
	"crypto/hkdf"
	"crypto/hmac"
	stdsha256 "crypto/sha256"
	stdsha512 "crypto/sha512"
	"encoding/binary"
	"encoding/hex"
	"math"
	"math/rand/v2"
	"strings"
	"testing"

	"farebox/api"
	"farebox/mac"
)

// edgeKeys are lengths of keys about a block's length of either hash, about a hash's length, and longer ones.
var edgeKeys = []int{0, 1, 2, 20, 31, 32, 33, 62, 63, 64, 65, 66, 100, 126, 127, 128, 129, 130, 131, 200, 256, 1000, 4096}

// edgeMessages are lengths of messages at which a block behind the key's frame is filled, and those beside them.
var edgeMessages = []int{0, 1, 2, 32, 55, 56, 63, 64, 65, 111, 112, 119, 120, 127, 128, 129, 255, 256, 257, 1000}

// edgeCounts are the numbers of bytes at which Expand begins a piece or ends one.
var edgeCounts = []int{0, 1, 2, 31, 32, 33, 63, 64, 65, 95, 96, 97, 1000, 8127, 8128, 8129, 8159, 8160}

// chance is a source of numbers that are the same in every run.
func chance(n uint64) *rand.Rand { return rand.New(rand.NewPCG(4, n)) }

// someBytes is n bytes of chance.
func someBytes(r *rand.Rand, n int) []byte {
	b := make([]byte, n)
	for i := range b {
		b[i] = byte(r.Uint64())
	}
	return b
}

// someHash is a hash of chance.
func someHash(r *rand.Rand) api.Hash { return api.Hash(someBytes(r, 32)) }

// unhex reads the hex of a test's table.
func unhex(t *testing.T, s string) []byte {
	t.Helper()
	b, err := hex.DecodeString(s)
	if err != nil {
		t.Fatal(err)
	}
	return b
}

// want256 and want512 are the keyed hashes by Go's library.
func want256(key, message []byte) api.Hash {
	h := hmac.New(stdsha256.New, key)
	h.Write(message)
	return api.Hash(h.Sum(nil))
}

func want512(key, message []byte) api.Wide {
	h := hmac.New(stdsha512.New, key)
	h.Write(message)
	return api.Wide(h.Sum(nil))
}

// wantExpand is what Expand makes, by Go's library.
func wantExpand(t *testing.T, key api.Hash, info []byte, n int) []byte {
	t.Helper()
	b, err := hkdf.Expand(stdsha256.New, key[:], string(info), n)
	if err != nil {
		t.Fatal(err)
	}
	return b
}

// wantInfo is the info that Derive expands with.
func wantInfo(label string, number int) []byte {
	return binary.BigEndian.AppendUint64(append([]byte(label), 0), uint64(number))
}

// inRoom is a copy of b with known bytes ahead of it and behind it, within its capacity; whole is all of that memory.
func inRoom(b []byte) (list, whole []byte) {
	whole = bytes.Repeat([]byte{0xa5}, len(b)+400)
	copy(whole[200:], b)
	return whole[200 : 200+len(b)], whole
}

// spoil writes over all memory of a list, its spare room too.
func spoil(b []byte) {
	b = b[:cap(b)]
	for i := range b {
		b[i] ^= 0xff
	}
}

// TestHandedInP41: what is handed in is left as it is, the room behind it included.
func TestHandedInP41(t *testing.T) {
	r := chance(1)
	for _, keyLen := range edgeKeys {
		for _, messageLen := range edgeMessages {
			key, allKey := inRoom(someBytes(r, keyLen))
			message, allMessage := inRoom(someBytes(r, messageLen))
			keyBefore, messageBefore := bytes.Clone(allKey), bytes.Clone(allMessage)
			mac.Mac256(key, message)
			mac.Mac512(key, message)
			mac.Extract(key, message)
			mac.Expand(api.Hash{1}, message, 100)
			if !bytes.Equal(allKey, keyBefore) || !bytes.Equal(allMessage, messageBefore) {
				t.Fatalf("%d bytes of key, %d of message: what was handed in is changed", keyLen, messageLen)
			}
		}
	}
}

// TestOneMemoryP41: the key and the message may lie in one memory, also one over the other.
func TestOneMemoryP41(t *testing.T) {
	whole := someBytes(chance(2), 400)
	before := bytes.Clone(whole)
	for _, cut := range []int{0, 1, 32, 64, 65, 128, 129, 300} {
		key, message := whole[:cut], whole[cut/2:]
		if mac.Mac256(key, message) != want256(key, message) || mac.Mac512(key, message) != want512(key, message) {
			t.Errorf("a key of %d bytes that lies over its message", cut)
		}
	}
	if !bytes.Equal(whole, before) {
		t.Error("what was handed in is changed")
	}
}

// TestNewMemoryP41: an answer shares nothing with a later one, nor with what was handed in.
func TestNewMemoryP41(t *testing.T) {
	r := chance(3)
	key := someHash(r)
	for _, n := range edgeCounts {
		info, whole := inRoom(someBytes(r, 40))
		before := bytes.Clone(whole)
		want := wantExpand(t, key, info, n)
		first, _ := mac.Expand(key, info, n)
		second, _ := mac.Expand(key, info, n)
		spoil(first)
		if !bytes.Equal(second, want) || !bytes.Equal(whole, before) {
			t.Fatalf("Expand by %d: writing over an answer is seen elsewhere", n)
		}
		_ = append(second, 1, 2, 3)
		third, _ := mac.Expand(key, info, n)
		spoil(whole)
		if !bytes.Equal(third, want) {
			t.Fatalf("Expand by %d: an answer changes with what was handed in or answered before", n)
		}
	}
	if refused, _ := mac.Expand(key, []byte("info"), 8161); cap(refused) > 0 {
		t.Error("a refused Expand hands out memory")
	}
}

// TestArgumentsAloneP41 asks the same again, behind other calls.
func TestArgumentsAloneP41(t *testing.T) {
	ask := func() (api.Hash, api.Wide, api.Hash, string, api.Hash) {
		expanded, _ := mac.Expand(api.Hash{4}, []byte("info"), 50)
		derived, _ := mac.Derive(api.Hash{5}, "label", 6)
		return mac.Mac256([]byte("key"), []byte("message")), mac.Mac512([]byte("key"), []byte("message")),
			mac.Extract([]byte("salt"), []byte("secret")), string(expanded), derived
	}
	a1, b1, c1, d1, e1 := ask()
	mac.Mac256(make([]byte, 300), make([]byte, 300))
	mac.Mac512(make([]byte, 300), make([]byte, 300))
	mac.Expand(api.Hash{}, make([]byte, 300), 8160)
	mac.Derive(api.Hash{}, "other", 7)
	a2, b2, c2, d2, e2 := ask()
	if a1 != a2 || b1 != b2 || c1 != c2 || d1 != d2 || e1 != e2 {
		t.Error("the same arguments give another answer")
	}
}

func TestNilIsEmptyP41(t *testing.T) {
	none := []byte{}
	want, wantWide := want256(nil, nil), want512(nil, nil)
	for _, key := range [][]byte{nil, none} {
		for _, message := range [][]byte{nil, none} {
			if mac.Mac256(key, message) != want || mac.Extract(key, message) != want || mac.Mac512(key, message) != wantWide {
				t.Errorf("key %#v, message %#v", key, message)
			}
		}
	}
	a, okA := mac.Expand(api.Hash{9}, nil, 40)
	b, okB := mac.Expand(api.Hash{9}, none, 40)
	if !okA || !okB || !bytes.Equal(a, b) || !bytes.Equal(a, wantExpand(t, api.Hash{9}, nil, 40)) {
		t.Errorf("Expand with no info: %x, %v and %x, %v", a, okA, b, okB)
	}
}

// TestMacKnownP42 has the chapter's examples and the other cases of RFC 4231 (but the fifth, whose answer is cut).
func TestMacKnownP42(t *testing.T) {
	for _, c := range []struct{ key, message, short, wide string }{
		{strings.Repeat("\x0b", 20), "Hi There",
			"b0344c61d8db38535ca8afceaf0bf12b881dc200c9833da726e9376c2e32cff7",
			"87aa7cdea5ef619d4ff0b4241a1d6cb02379f4e2ce4ec2787ad0b30545e17cdedaa833b7d6b8a702038b274eaea3f4e4be9d914eeb61f1702e696c203a126854"},
		{"Jefe", "what do ya want for nothing?",
			"5bdcc146bf60754e6a042426089575c75a003f089d2739839dec58b964ec3843",
			"164b7a7bfcf819e2e395fbe73b56e0a387bd64222e831fd610270cd7ea2505549758bf75c05a994a6d034f65f8f0e6fdcaeab1a34d4a6b4b636e070a38bce737"},
		{strings.Repeat("\xaa", 20), strings.Repeat("\xdd", 50),
			"773ea91e36800e46854db8ebd09181a72959098b3ef8c122d9635514ced565fe",
			"fa73b0089d56a284efb0f0756c890be9b1b5dbdd8ee81a3655f83e33b2279d39bf3e848279a722c806b485a47e67c807b946a337bee8942674278859e13292fb"},
		{"\x01\x02\x03\x04\x05\x06\x07\x08\x09\x0a\x0b\x0c\x0d\x0e\x0f\x10\x11\x12\x13\x14\x15\x16\x17\x18\x19", strings.Repeat("\xcd", 50),
			"82558a389a443c0ea4cc819899f2083a85f0faa3e578f8077a2e3ff46729665b",
			"b0ba465637458c6990e5a8c5f61d4af7e576d97ff94b872de76f8050361ee3dba91ca5c11aa25eb4d679275cc5788063a5f19741120c4f2de2adebeb10a298dd"},
		{strings.Repeat("\xaa", 131), "This is a test using a larger than block-size key and a larger than block-size data. The key needs to be hashed before being used by the HMAC algorithm.",
			"9b09ffa71b942fcb27635fbcd5b0e944bfdc63644f0713938a7f51535c3a35e2",
			"e37b6a775dc87dbaa4dfa9f96e5e3ffddebd71f8867289865df5a32d20cdc944b6022cac3c4982b10d5eeb55c3e4de15134676fb6de0446065c97440fa8c6a58"},
		{strings.Repeat("\xaa", 131), "Test Using Larger Than Block-Size Key - Hash Key First",
			"60e431591ee0b67f0d8a26aacbf5b77f8e0bc6213728c5140546040f0ee37f54",
			"80b24263c7c1a3ebb71493c1dd7be8b49b46d1f41b4aeec1121b013783f8f3526b56d037e05f2598bd0fd2215d6a1e5295e64f73f63f0aec8b915a985d786598"},
	} {
		short, wide := mac.Mac256([]byte(c.key), []byte(c.message)), mac.Mac512([]byte(c.key), []byte(c.message))
		if hex.EncodeToString(short[:]) != c.short {
			t.Errorf("Mac256(%q, %q) = %x, want %s", c.key, c.message, short, c.short)
		}
		if hex.EncodeToString(wide[:]) != c.wide {
			t.Errorf("Mac512(%q, %q) = %x, want %s", c.key, c.message, wide, c.wide)
		}
	}
}

func TestMacEdgesP42(t *testing.T) {
	r := chance(4)
	for _, keyLen := range edgeKeys {
		for _, messageLen := range edgeMessages {
			checkMacs(t, someBytes(r, keyLen), someBytes(r, messageLen))
		}
	}
}

func TestMacEveryKeyLengthP42(t *testing.T) {
	r := chance(5)
	for n := range 300 {
		checkMacs(t, someBytes(r, n), someBytes(r, r.IntN(300)))
		checkMacs(t, bytes.Repeat([]byte{0xff}, n), nil)
		checkMacs(t, make([]byte, n), []byte("zeros"))
	}
	checkMacs(t, someBytes(r, 100000), someBytes(r, 100000))
}

// checkMacs holds both keyed hashes against Go's library.
func checkMacs(t *testing.T, key, message []byte) {
	t.Helper()
	if got, want := mac.Mac256(key, message), want256(key, message); got != want {
		t.Fatalf("Mac256(%x, %x) = %x, want %x", key, message, got, want)
	}
	if got, want := mac.Mac512(key, message), want512(key, message); got != want {
		t.Fatalf("Mac512(%x, %x) = %x, want %x", key, message, got, want)
	}
}

func TestExtractP43(t *testing.T) {
	r := chance(6)
	for _, saltLen := range edgeKeys {
		for _, secretLen := range edgeMessages {
			salt, secret := someBytes(r, saltLen), someBytes(r, secretLen)
			got := mac.Extract(salt, secret)
			if got != mac.Mac256(salt, secret) || got != want256(salt, secret) {
				t.Fatalf("Extract(%x, %x) = %x", salt, secret, got)
			}
		}
	}
}

// TestKnownExpansionsP44 has the cases of RFC 5869 with this hash: Extract, then Expand.
func TestKnownExpansionsP44(t *testing.T) {
	run := func(from, to int) string {
		var b []byte
		for c := from; c <= to; c++ {
			b = append(b, byte(c))
		}
		return hex.EncodeToString(b)
	}
	for _, c := range []struct{ salt, secret, info, key, made string }{
		{run(0, 0x0c), strings.Repeat("0b", 22), run(0xf0, 0xf9),
			"077709362c2e32df0ddc3f0dc47bba6390b6c73bb50f9c3122ec844ad7c2b3e5",
			"3cb25f25faacd57a90434f64d0362f2a2d2d0a90cf1a5a4c5db02d56ecc4c5bf34007208d5b887185865"},
		{run(0x60, 0xaf), run(0, 0x4f), run(0xb0, 0xff),
			"06a6b88c5853361a06104c9ceb35b45cef760014904671014a193f40c15fc244",
			"b11e398dc80327a1c8e7f78c596a49344f012eda2d4efad8a050cc4c19afa97c59045a99cac7827271cb41c65e590e09da3275600c2f09b8367793a9aca3db71cc30c58179ec3e87c14c01d5c1f3434f1d87"},
		{"", strings.Repeat("0b", 22), "",
			"19ef24a32c717b167f33a91d6f648bdf96596776afdb6377ac434c1c293ccb04",
			"8da4e775a563c18f715f802a063c5a31b8a11f5c5ee1879ec3454e5f3c738d2d9d201395faa4b61a96c8"},
	} {
		key := mac.Extract(unhex(t, c.salt), unhex(t, c.secret))
		if hex.EncodeToString(key[:]) != c.key {
			t.Errorf("Extract(%s, %s) = %x, want %s", c.salt, c.secret, key, c.key)
		}
		made, ok := mac.Expand(key, unhex(t, c.info), len(c.made)/2)
		if !ok || hex.EncodeToString(made) != c.made {
			t.Errorf("Expand(%s, %s) = %x, %v, want %s", c.key, c.info, made, ok, c.made)
		}
	}
}

func TestExpandP44(t *testing.T) {
	r := chance(7)
	for _, infoLen := range []int{0, 1, 31, 32, 33, 64, 1000} {
		for _, n := range edgeCounts {
			key, info := someHash(r), someBytes(r, infoLen)
			got, ok := mac.Expand(key, info, n)
			if want := wantExpand(t, key, info, n); !ok || !bytes.Equal(got, want) {
				t.Fatalf("Expand(%x, %x, %d) = %x, %v, want %x", key, info, n, got, ok, want)
			}
		}
	}
}

// TestExpandByPiecesP44 lays the pieces by the keyed hash of Go's library, up to the last one.
func TestExpandByPiecesP44(t *testing.T) {
	key, info := api.Hash{3, 1, 4}, []byte("info")
	got, ok := mac.Expand(key, info, api.MaxExpand)
	if !ok || len(got) != 255*32 {
		t.Fatalf("Expand by MaxExpand: %d bytes, %v", len(got), ok)
	}
	var last []byte
	for i := 1; i <= 255; i++ {
		piece := want256(key[:], append(append(bytes.Clone(last), info...), byte(i)))
		last = piece[:]
		if !bytes.Equal(got[32*(i-1):32*i], last) {
			t.Fatalf("piece %d is %x, want %x", i, got[32*(i-1):32*i], last)
		}
	}
}

func TestExpandRefusesP44(t *testing.T) {
	for _, n := range []int{-1, -2, -32, 8161, 8162, 8192, 65536, 1 << 31, math.MaxInt, math.MinInt} {
		if got, ok := mac.Expand(api.Hash{}, nil, n); ok || len(got) != 0 {
			t.Errorf("Expand by %d = %x, %v, want none, false", n, got, ok)
		}
	}
	if got, ok := mac.Expand(api.Hash{}, nil, 0); !ok || len(got) != 0 {
		t.Errorf("Expand by 0 = %x, %v, want none, true", got, ok)
	}
}

func TestDeriveP45(t *testing.T) {
	r := chance(8)
	labels := []string{"", "a", "node", "node ", "\x00", "a\x00", "\x00\x00\x00", "\xff\xfe", "ключ",
		strings.Repeat("z", 31), strings.Repeat("z", 32), strings.Repeat("\x00", 32), strings.Repeat("\xff", 32)}
	for _, label := range labels {
		for _, number := range []int{0, 1, 3, 255, 256, 65535, 65536, 1<<24 + 5, 2147483646, 2147483647} {
			secret := someHash(r)
			got, ok := mac.Derive(secret, label, number)
			info := wantInfo(label, number)
			if !ok || got != api.Hash(wantExpand(t, secret, info, 32)) {
				t.Fatalf("Derive(%x, %q, %d) = %x, %v", secret, label, number, got, ok)
			}
			if same, _ := mac.Expand(secret, info, 32); !bytes.Equal(got[:], same) {
				t.Fatalf("Derive(%x, %q, %d) = %x, but Expand = %x", secret, label, number, got, same)
			}
		}
	}
}

func TestDeriveExampleP45(t *testing.T) {
	secret := api.Hash{7, 7, 7}
	want, _ := mac.Expand(secret, []byte("node\x00\x00\x00\x00\x00\x00\x00\x00\x03"), 32)
	if got, ok := mac.Derive(secret, "node", 3); !ok || !bytes.Equal(got[:], want) {
		t.Errorf("Derive(s, node, 3) = %x, %v, want %x, true", got, ok, want)
	}
}

func TestDeriveRefusesP45(t *testing.T) {
	for _, c := range []struct {
		label  string
		number int
	}{
		{strings.Repeat("z", 33), 0}, {strings.Repeat("\x00", 33), 1}, {strings.Repeat("z", 1000), 5},
		// Seventeen letters of two bytes each: the bound counts bytes.
		{strings.Repeat("ж", 17), 0},
		{"a", -1}, {"", -1}, {"a", -2147483648}, {"a", math.MinInt},
		{"a", 2147483648}, {"", 2147483648}, {"a", 1 << 32}, {"a", math.MaxInt},
		{strings.Repeat("z", 33), -1}, {strings.Repeat("z", 33), 2147483648},
	} {
		if got, ok := mac.Derive(api.Hash{1}, c.label, c.number); ok || got != (api.Hash{}) {
			t.Errorf("Derive(%q, %d) = %x, %v, want zeros, false", c.label, c.number, got, ok)
		}
	}
}

// TestDeriveTellsApartP45: no two of labels and numbers that look alike give one secret.
func TestDeriveTellsApartP45(t *testing.T) {
	seen := map[api.Hash]string{}
	for _, label := range []string{"", "\x00", "\x00\x00", "a", "a\x00", "a\x00\x00", "a\x00\x00\x00\x00\x00\x00\x00\x00\x00", "aa", "b"} {
		for _, number := range []int{0, 1, 97, 256, 2147483647} {
			got, ok := mac.Derive(api.Hash{1}, label, number)
			if other, there := seen[got]; there || !ok {
				t.Errorf("Derive(%q, %d) is that of %q, %v", label, number, other, ok)
			}
			seen[got] = label
		}
	}
}

func TestZerosBehindKeyP46(t *testing.T) {
	r := chance(9)
	message := []byte("message")
	for n := range 129 {
		key := someBytes(r, n)
		if n > 0 {
			// A last byte that is not 0: a key that is cut would else be the same.
			key[n-1] |= 1
		}
		short, wide := mac.Mac256(key, message), mac.Mac512(key, message)
		for size := n + 1; size <= 130; size++ {
			longer := append(bytes.Clone(key), make([]byte, size-n)...)
			if n <= 64 && (mac.Mac256(longer, message) == short) != (size <= 64) {
				t.Fatalf("Mac256: a key of %d bytes, and with bytes 0 behind it up to %d", n, size)
			}
			if n <= 128 && (mac.Mac512(longer, message) == wide) != (size <= 128) {
				t.Fatalf("Mac512: a key of %d bytes, and with bytes 0 behind it up to %d", n, size)
			}
		}
	}
}

func TestLongKeyIsItsHashP46(t *testing.T) {
	r := chance(10)
	message := []byte("message")
	for n := range 300 {
		key := someBytes(r, n)
		short, wide := stdsha256.Sum256(key), stdsha512.Sum512(key)
		if (mac.Mac256(key, message) == mac.Mac256(short[:], message)) != (n > 64) {
			t.Errorf("Mac256 with a key of %d bytes, and with its hash", n)
		}
		if (mac.Mac512(key, message) == mac.Mac512(wide[:], message)) != (n > 128) {
			t.Errorf("Mac512 with a key of %d bytes, and with its hash", n)
		}
	}
}

func TestExpandByFewerP46(t *testing.T) {
	key, info := api.Hash{2, 7, 1}, []byte("fewer")
	whole, _ := mac.Expand(key, info, api.MaxExpand)
	counts := append([]int(nil), edgeCounts...)
	for n := range 300 {
		counts = append(counts, n)
	}
	for _, n := range counts {
		if got, ok := mac.Expand(key, info, n); !ok || len(got) != n || !bytes.HasPrefix(whole, got) {
			t.Fatalf("Expand by %d is not the beginning of Expand by %d", n, len(whole))
		}
	}
}

package sign_test

import (
	"bytes"
	"crypto/ed25519"
	stdsha512 "crypto/sha512"
	"encoding/hex"
	"math/big"
	"math/rand/v2"
	"slices"
	"strings"
	"testing"

	"farebox/api"
	"farebox/curve"
	"farebox/scalar"
	"farebox/sign"
)

// order is L, by Go's library.
var order, _ = new(big.Int).SetString("1000000000000000000000000000000014def9dea2f79cd65812631a5cf5d3ed", 16)

// edgeLengths are lengths of messages at which a block behind 32 or 64 other bytes is filled, or its padding begins another, and those beside them.
var edgeLengths = []int{0, 1, 2, 3, 31, 32, 33, 46, 47, 48, 49, 63, 64, 65, 78, 79, 80, 81, 95, 96, 97, 127, 128, 129, 191, 192, 193, 255, 256, 1000, 1023}

// smallTexts are the points of which eight times is the neutral one, each the sum of the one before it and the second.
var smallTexts = []string{
	"01" + strings.Repeat("00", 31),
	"26e8958fc2b227b045c3f489f2ef98f0d5dfac05d3c63339b13802886d53fc05",
	strings.Repeat("00", 32),
	"c7176a703d4dd84fba3c0b760d10670f2a2053fa2c39ccc64ec7fd7792ac037a",
	"ec" + strings.Repeat("ff", 30) + "7f",
	"c7176a703d4dd84fba3c0b760d10670f2a2053fa2c39ccc64ec7fd7792ac03fa",
	strings.Repeat("00", 31) + "80",
	"26e8958fc2b227b045c3f489f2ef98f0d5dfac05d3c63339b13802886d53fc85",
}

// secondTexts are bytes that would be such a point too, if more than one encoding of it were taken.
var secondTexts = []string{
	"01" + strings.Repeat("00", 30) + "80",
	"ee" + strings.Repeat("ff", 30) + "7f",
	"ee" + strings.Repeat("ff", 31),
	"ec" + strings.Repeat("ff", 31),
	"ed" + strings.Repeat("ff", 30) + "7f",
	"ed" + strings.Repeat("ff", 31),
}

// nowhereTexts are bytes that are no point's at all: their y has no x.
var nowhereTexts = []string{
	"02" + strings.Repeat("00", 31),
	"02" + strings.Repeat("00", 30) + "80",
	"ef" + strings.Repeat("ff", 30) + "7f",
}

// known are rows of RFC 8032, and the chapter's own.
var known = []struct{ seed, message, public, sig string }{
	{
		strings.Repeat("00", 32), "",
		"3b6a27bcceb6a42d62a3a8d02a6f0d73653215771de243a63ac048a18b59da29",
		"8f895b3cafe2c9506039d0e2a66382568004674fe8d237785092e40d6aaf483e4fc60168705f31f101596138ce21aa357c0d32a064f423dc3ee4aa3abf53f803",
	},
	{
		"9d61b19deffd5a60ba844af492ec2cc44449c5697b326919703bac031cae7f60", "",
		"d75a980182b10ab7d54bfed3c964073a0ee172f3daa62325af021a68f707511a",
		"e5564300c360ac729086e2cc806e828a84877f1eb8e5d974d873e065224901555fb8821590a33bacc61e39701cf9b46bd25bf5f0595bbe24655141438e7a100b",
	},
	{
		"4ccd089b28ff96da9db6c346ec114e0f5b8a319f35aba624da8cf6ed4fb8a6fb", "72",
		"3d4017c3e843895a92b70aa74d1b7ebc9c982ccf2ec4968cc0cd55f12af4660c",
		"92a009a9f0d4cab8720e820b5f642540a2b27b5416503f8fb3762223ebdb69da085ac1e43e15996e458f3613d0f11d8c387b2eaeb4302aeeb00d291612bb0c00",
	},
	{
		"c5aa8df43f9f837bedb7442f31dcb7b166d38535076f094b85ce3a2e0b4458f7", "af82",
		"fc51cd8e6218a1a38da47ed00230f0580816ed13ba3303ac5deb911548908025",
		"6291d657deec24024827e69c3abe01a30ce548a284743a445e3680d7db5ac3ac18ff9b538d16f290ae67f760984dc6594a7c15e9716ed28dc027beceea1ec40a",
	},
	{
		"833fe62409237b9d62ec77587520911e9a759cec1d19755b7da901b96dca3d42",
		"ddaf35a193617abacc417349ae20413112e6fa4e89a97ea20a9eeee64b55d39a2192992a274fc1a836ba3c23a3feebbd454d4423643ce80e2a9ac94fa54ca49f",
		"ec172b93ad5e563bf4932c70e1245034c35467ef2efd4d64ebf819683467e2bf",
		"dc2a4459e7369633a52b1bf277839a00201009a3efbf3ecb69bea2186c26b58909351fc9ac90b3ecfdfbc7c66431e0303dca179c138ac17ad9bef1177331a704",
	},
}

// chance is a source of numbers that are the same in every run.
func chance(n uint64) *rand.Rand { return rand.New(rand.NewPCG(8, n)) }

// someBytes is n bytes of chance.
func someBytes(r *rand.Rand, n int) []byte {
	b := make([]byte, n)
	for i := range b {
		b[i] = byte(r.Uint32())
	}
	return b
}

func someSeed(r *rand.Rand) api.Hash { return api.Hash(someBytes(r, 32)) }

// seeds are those of one byte over and over, and some.
func seeds(r *rand.Rand, some int) []api.Hash {
	var out []api.Hash
	for _, b := range []byte{0, 1, 0x7f, 0x80, 0xff} {
		out = append(out, api.Hash(bytes.Repeat([]byte{b}, 32)))
	}
	for range some {
		out = append(out, someSeed(r))
	}
	return out
}

// unhex reads the hex of a test's table.
func unhex(text string) []byte {
	b, err := hex.DecodeString(text)
	if err != nil {
		panic(err)
	}
	return b
}

func keyOf(text string) api.Key { return api.Key(unhex(text)) }

// smallPoints are the eight points of smallTexts.
func smallPoints() []api.Point {
	var out []api.Point
	for _, text := range smallTexts {
		p, _ := curve.Decode(keyOf(text))
		out = append(out, p)
	}
	return out
}

// laid is the signature of an R and an S.
func laid(r api.Key, s api.Scalar) api.Sig { return api.Sig(slices.Concat(r[:], s[:])) }

// numberOf is the number of bytes, the lowest first.
func numberOf(b []byte) *big.Int {
	turned := slices.Clone(b)
	slices.Reverse(turned)
	return new(big.Int).SetBytes(turned)
}

// scalarOf is a number below 2^256.
func scalarOf(n *big.Int) api.Scalar {
	var b api.Scalar
	n.FillBytes(b[:])
	slices.Reverse(b[:])
	return b
}

// higher is a signature with L added to its S so many times; false if that goes beyond 32 bytes.
func higher(s api.Sig, times int64) (api.Sig, bool) {
	n := new(big.Int).Mul(order, big.NewInt(times))
	n.Add(n, numberOf(s[32:]))
	if n.BitLen() > 256 {
		return api.Sig{}, false
	}
	return laid(api.Key(s[:32]), scalarOf(n)), true
}

// turnedKey and turnedSig have one bit turned.
func turnedKey(k api.Key, bit int) api.Key {
	k[bit/8] ^= 1 << (bit % 8)
	return k
}

func turnedSig(s api.Sig, bit int) api.Sig {
	s[bit/8] ^= 1 << (bit % 8)
	return s
}

func turnedList(b []byte, bit int) []byte {
	out := slices.Clone(b)
	out[bit/8] ^= 1 << (bit % 8)
	return out
}

// multiplierOf is a seed's, by Go's library.
func multiplierOf(seed api.Hash) api.Scalar {
	wide := stdsha512.Sum512(seed[:])
	a := api.Scalar(wide[:32])
	a[0] &= 0xf8
	a[31] = a[31]&0x7f | 0x40
	return a
}

// isVerified tests what Verify answers.
func isVerified(t *testing.T, what string, k api.Key, message []byte, s api.Sig, want bool) {
	t.Helper()
	if sign.Verify(k, message, s) != want {
		t.Fatalf("%s: Verify(%x, %x, %x) = %v", what, k, message, s, !want)
	}
}

// asLibrary tests that Verify answers what Go's library does, which takes more keys than the chapter, but checks alike where a key is one.
func asLibrary(t *testing.T, what string, k api.Key, message []byte, s api.Sig) bool {
	t.Helper()
	want := ed25519.Verify(k[:], message, s[:])
	isVerified(t, what, k, message, s, want)
	return want
}

func TestPublicP81(t *testing.T) {
	for _, seed := range seeds(chance(1), 60) {
		want := api.Key(ed25519.NewKeyFromSeed(seed[:])[32:])
		if got := sign.Public(seed); got != want {
			t.Fatalf("Public(%x) = %x, want %x", seed, got, want)
		}
	}
}

// Each bit of a seed makes another key.
func TestPublicBitsP81(t *testing.T) {
	seed := someSeed(chance(2))
	seen := map[api.Key]int{sign.Public(seed): -1}
	for i := range 256 {
		k := sign.Public(api.Hash(turnedKey(api.Key(seed), i)))
		if other, ok := seen[k]; ok {
			t.Fatalf("the seeds with bits %d and %d turned have one key", other, i)
		}
		seen[k] = i
	}
}

func TestSignP82(t *testing.T) {
	r := chance(3)
	for i, seed := range seeds(r, 3*len(edgeLengths)) {
		message := someBytes(r, edgeLengths[i%len(edgeLengths)])
		want := api.Sig(ed25519.Sign(ed25519.NewKeyFromSeed(seed[:]), message))
		if got := sign.Sign(seed, message); got != want {
			t.Fatalf("Sign(%x, %x) = %x, want %x", seed, message, got, want)
		}
	}
}

func TestSignLongP82(t *testing.T) {
	r := chance(4)
	seed, message := someSeed(r), someBytes(r, 1<<20)
	s := sign.Sign(seed, message)
	if s != api.Sig(ed25519.Sign(ed25519.NewKeyFromSeed(seed[:]), message)) {
		t.Fatalf("a long message is signed by %x", s)
	}
	isVerified(t, "a long message", sign.Public(seed), message, s, true)
	message[1<<20-1] ^= 1
	isVerified(t, "a long message with its last byte changed", sign.Public(seed), message, s, false)
}

func TestSignOnceMoreP82(t *testing.T) {
	r := chance(5)
	seed, message, other := someSeed(r), someBytes(r, 50), someBytes(r, 50)
	first := sign.Sign(seed, message)
	second := sign.Sign(seed, other)
	if second == first || bytes.Equal(second[:32], first[:32]) {
		t.Fatal("two messages share an R")
	}
	sign.Sign(someSeed(r), message)
	if sign.Sign(seed, message) != first {
		t.Fatal("one message is signed otherwise once more")
	}
}

func TestVerifyLibrarysP83(t *testing.T) {
	r := chance(6)
	for i, seed := range seeds(r, 2*len(edgeLengths)) {
		message := someBytes(r, edgeLengths[i%len(edgeLengths)])
		whole := ed25519.NewKeyFromSeed(seed[:])
		s := api.Sig(ed25519.Sign(whole, message))
		isVerified(t, "the library's signature", api.Key(whole[32:]), message, s, true)
	}
}

func TestVerifyTurnedBitsP83(t *testing.T) {
	r := chance(7)
	seed, message := someSeed(r), someBytes(r, 20)
	k, s := sign.Public(seed), sign.Sign(seed, message)
	isVerified(t, "nothing turned", k, message, s, true)
	for i := range 512 {
		isVerified(t, "a bit of the signature turned", k, message, turnedSig(s, i), false)
	}
	for i := range 256 {
		isVerified(t, "a bit of the key turned", turnedKey(k, i), message, s, false)
	}
	for i := range 8 * len(message) {
		isVerified(t, "a bit of the message turned", k, turnedList(message, i), s, false)
	}
}

func TestVerifyOtherMessagesP83(t *testing.T) {
	r := chance(8)
	seed := someSeed(r)
	k := sign.Public(seed)
	for _, n := range edgeLengths {
		message := someBytes(r, n)
		s := sign.Sign(seed, message)
		isVerified(t, "a byte more", k, append(slices.Clone(message), 0), s, false)
		isVerified(t, "a byte ahead", k, append([]byte{0}, message...), s, false)
		isVerified(t, "another seed's key", sign.Public(someSeed(r)), message, s, false)
		if n > 0 {
			isVerified(t, "a byte less", k, message[:n-1], s, false)
			isVerified(t, "the first byte gone", k, message[1:], s, false)
			isVerified(t, "no message", k, nil, s, false)
		}
	}
}

// All the bytes are there, but not in their places.
func TestVerifySwappedPartsP83(t *testing.T) {
	r := chance(9)
	seed, message := someSeed(r), someBytes(r, 32)
	k, s := sign.Public(seed), sign.Sign(seed, message)
	isVerified(t, "S || R", k, message, api.Sig(slices.Concat(s[32:], s[:32])), false)
	isVerified(t, "R || R", k, message, api.Sig(slices.Concat(s[:32], s[:32])), false)
	isVerified(t, "S || S", k, message, api.Sig(slices.Concat(s[32:], s[32:])), false)
	isVerified(t, "key and R in each other's place", api.Key(s[:32]), message, api.Sig(slices.Concat(k[:], s[32:])), false)
	isVerified(t, "key and message in each other's place", api.Key(message), k[:], s, false)
}

func TestVerifyKeyIsNoPointP83(t *testing.T) {
	r := chance(10)
	refused := 0
	for range 100 {
		k, message := api.Key(someBytes(r, 32)), someBytes(r, 5)
		s := sign.Sign(someSeed(r), message)
		isVerified(t, "any key", k, message, s, false)
		if _, ok := curve.Decode(k); !ok {
			refused++
		}
	}
	if refused == 0 {
		t.Error("no key of the test is no point")
	}
	for _, text := range slices.Concat(secondTexts, nowhereTexts) {
		for i := range 64 {
			for _, first := range smallTexts {
				isVerified(t, "a key that is no encoding", keyOf(text), []byte{byte(i)}, laid(keyOf(first), api.Scalar{}), false)
			}
		}
	}
}

// The keys that are refused above are refused for the way they are written: a check that reads them as points would take them.
func TestSecondTextsBite(t *testing.T) {
	taken := 0
	for _, text := range secondTexts {
		k, s := keyOf(text), laid(keyOf(smallTexts[0]), api.Scalar{})
		for i := range 64 {
			if ed25519.Verify(k[:], []byte{byte(i)}, s[:]) {
				taken++
				break
			}
		}
	}
	if taken != len(secondTexts) {
		t.Errorf("%d of %d keys would verify if they were read", taken, len(secondTexts))
	}
}

func TestVerifySmallKeysP83(t *testing.T) {
	verified := map[string]int{}
	for _, key := range smallTexts {
		for _, first := range slices.Concat(smallTexts, secondTexts, nowhereTexts) {
			for i := range 12 {
				if asLibrary(t, "a key of small order", keyOf(key), []byte{byte(i)}, laid(keyOf(first), api.Scalar{})) {
					verified[first]++
				}
			}
		}
	}
	for _, first := range smallTexts {
		if verified[first] == 0 {
			t.Errorf("R %s verifies nowhere", first)
		}
	}
	for _, first := range slices.Concat(secondTexts, nowhereTexts) {
		if verified[first] != 0 {
			t.Errorf("R %s, which is no encoding, verifies", first)
		}
	}
}

// With S 0 and a neutral key, what comes out is the neutral point for each message: all but its one encoding is refused.
func TestVerifyNeutralKeyP83(t *testing.T) {
	neutral := keyOf(smallTexts[0])
	for _, message := range [][]byte{nil, {}, {0}, []byte("any")} {
		isVerified(t, "the neutral key", neutral, message, laid(neutral, api.Scalar{}), true)
		for _, text := range slices.Concat(smallTexts[1:], secondTexts, nowhereTexts) {
			isVerified(t, "another R", neutral, message, laid(keyOf(text), api.Scalar{}), false)
		}
		for _, n := range []int64{1, 2, 3, 8, 15} {
			s, ok := higher(laid(neutral, api.Scalar{}), n)
			if !ok {
				t.Fatalf("%d L does not fit", n)
			}
			isVerified(t, "S is L or more", neutral, message, s, false)
		}
	}
}

// A key that is a seed's but for a point of small order: with the check that is not multiplied by eight, only some messages and Rs verify.
func TestVerifyMixedKeysP83(t *testing.T) {
	r := chance(11)
	verified, refused := 0, 0
	for _, odd := range smallPoints() {
		seed := someSeed(r)
		a := multiplierOf(seed)
		own, _ := curve.Decode(sign.Public(seed))
		k := curve.Encode(curve.Add(own, odd))
		for i := range 6 {
			message, secret := []byte{byte(i)}, scalar.Reduce(api.Wide(someBytes(r, 64)))
			for _, shift := range smallPoints() {
				first := curve.Encode(curve.Add(curve.MulBase(secret), shift))
				h := scalar.Reduce(api.Wide(stdsha512.Sum512(slices.Concat(first[:], k[:], message))))
				if asLibrary(t, "a key of mixed order", k, message, laid(first, scalar.MulAdd(h, a, secret))) {
					verified++
				} else {
					refused++
				}
			}
		}
	}
	if verified < 20 || refused < 200 {
		t.Errorf("%d verify and %d do not: the test asks too little", verified, refused)
	}
}

func TestVerifyHighNumbersP83(t *testing.T) {
	r := chance(12)
	seed, message := someSeed(r), someBytes(r, 9)
	k, s := sign.Public(seed), sign.Sign(seed, message)
	first := api.Key(s[:32])
	top := new(big.Int).Sub(new(big.Int).Lsh(big.NewInt(1), 256), big.NewInt(1))
	for _, n := range []*big.Int{big.NewInt(0), big.NewInt(1), new(big.Int).Sub(order, big.NewInt(1)), order, new(big.Int).Add(order, big.NewInt(1)), top} {
		isVerified(t, "an S of the edge", k, message, laid(first, scalarOf(n)), false)
	}
}

// S 0 and S L - 1 are canonical: with them made right, they verify.
func TestVerifyEdgeNumbersP83(t *testing.T) {
	r := chance(13)
	seed := someSeed(r)
	neutral := keyOf(smallTexts[0])
	last := scalarOf(new(big.Int).Sub(order, big.NewInt(1)))
	for _, s := range []api.Scalar{{}, {1}, {2}, last} {
		isVerified(t, "the neutral key", neutral, seed[:], laid(curve.Encode(curve.MulBase(s)), s), true)
	}
	isVerified(t, "another S", neutral, seed[:], laid(curve.Encode(curve.MulBase(last)), api.Scalar{1}), false)
}

func TestVerifyAnythingP83(t *testing.T) {
	r := chance(14)
	for range 200 {
		k, s := api.Key(someBytes(r, 32)), api.Sig(someBytes(r, 64))
		s[63] &= 0x0f
		isVerified(t, "any bytes", k, someBytes(r, r.IntN(200)), s, false)
	}
	isVerified(t, "all zero", api.Key{}, nil, api.Sig{}, ed25519.Verify(make([]byte, 32), nil, make([]byte, 64)))
	full := bytes.Repeat([]byte{0xff}, 64)
	isVerified(t, "all ones", api.Key(full[:32]), full, api.Sig(full), false)
}

// lists are n keys, messages and signatures that verify.
func lists(r *rand.Rand, n int) ([]api.Key, [][]byte, []api.Sig) {
	var keys []api.Key
	var messages [][]byte
	var sigs []api.Sig
	for i := range n {
		seed, message := someSeed(r), someBytes(r, 7*i)
		keys, messages, sigs = append(keys, sign.Public(seed)), append(messages, message), append(sigs, sign.Sign(seed, message))
	}
	return keys, messages, sigs
}

func isAll(t *testing.T, what string, keys []api.Key, messages [][]byte, sigs []api.Sig, n int, ok bool) {
	t.Helper()
	if gotN, gotOK := sign.VerifyAll(keys, messages, sigs); gotN != n || gotOK != ok {
		t.Fatalf("%s: %d, %v, want %d, %v", what, gotN, gotOK, n, ok)
	}
}

func TestVerifyAllP84(t *testing.T) {
	for n := range 8 {
		keys, messages, sigs := lists(chance(15), n)
		isAll(t, "all of them verify", keys, messages, sigs, n, true)
	}
}

func TestVerifyAllOfNoneP84(t *testing.T) {
	isAll(t, "nil", nil, nil, nil, 0, true)
	isAll(t, "empty", []api.Key{}, [][]byte{}, []api.Sig{}, 0, true)
	isAll(t, "both", nil, [][]byte{}, nil, 0, true)
}

func TestVerifyAllUnlikeP84(t *testing.T) {
	keys, messages, sigs := lists(chance(16), 3)
	for a := range 4 {
		for b := range 4 {
			for c := range 4 {
				if a != b || b != c {
					isAll(t, "unlike lists", keys[:a], messages[:b], sigs[:c], -1, false)
				}
			}
		}
	}
	sigs[0][0] ^= 1
	isAll(t, "unlike lists, the first of them false", keys, messages[:2], sigs, -1, false)
	isAll(t, "unlike lists, with nil", keys, nil, sigs, -1, false)
}

// Each choice of false places, spoilt each in one of the three lists, is tried.
func TestVerifyAllFirstFalseP84(t *testing.T) {
	keys, messages, sigs := lists(chance(17), 5)
	for set := 1; set < 32; set++ {
		k, m, s, first := slices.Clone(keys), slices.Clone(messages), slices.Clone(sigs), -1
		for i := range 5 {
			if set>>i&1 == 0 {
				continue
			}
			if first < 0 {
				first = i
			}
			switch (set + i) % 3 {
			case 0:
				k[i] = turnedKey(k[i], 9)
			case 1:
				m[i] = append(slices.Clone(m[i]), 1)
			case 2:
				s[i] = turnedSig(s[i], 260)
			}
		}
		isAll(t, "some are false", k, m, s, first, false)
	}
}

// Keys, messages and signatures that verify, but in another's place.
func TestVerifyAllOtherPlacesP84(t *testing.T) {
	keys, messages, sigs := lists(chance(18), 4)
	sigs[2], sigs[3] = sigs[3], sigs[2]
	isAll(t, "signatures in each other's place", keys, messages, sigs, 2, false)
	messages[2], messages[3] = messages[3], messages[2]
	isAll(t, "messages too", keys, messages, sigs, 2, false)
	keys[2], keys[3] = keys[3], keys[2]
	isAll(t, "keys too", keys, messages, sigs, 4, true)
}

func TestSignedVerifiesP85(t *testing.T) {
	r := chance(19)
	for i, seed := range seeds(r, 30) {
		message := someBytes(r, i*i)
		isVerified(t, "what Sign makes", sign.Public(seed), message, sign.Sign(seed, message), true)
	}
}

func TestOneNumberP85(t *testing.T) {
	r := chance(20)
	for range 10 {
		seed, message := someSeed(r), someBytes(r, 10)
		k, s := sign.Public(seed), sign.Sign(seed, message)
		first, n := api.Key(s[:32]), api.Scalar(s[32:])
		isVerified(t, "its own S", k, message, laid(first, n), true)
		for _, other := range []api.Scalar{scalar.Neg(n), scalar.Add(n, api.Scalar{1}), scalar.Sub(n, api.Scalar{1}), scalar.Add(n, n), scalar.Reduce(api.Wide(someBytes(r, 64)))} {
			isVerified(t, "another S", k, message, laid(first, other), false)
		}
	}
}

func TestOrderAddedP85(t *testing.T) {
	r := chance(21)
	for range 5 {
		seed, message := someSeed(r), someBytes(r, 10)
		k, s := sign.Public(seed), sign.Sign(seed, message)
		for n := int64(1); n <= 16; n++ {
			if h, ok := higher(s, n); ok {
				isVerified(t, "L added to S", k, message, h, false)
			} else if n < 15 {
				t.Fatalf("%d L does not fit", n)
			}
		}
	}
}

func TestNilIsEmpty(t *testing.T) {
	r := chance(22)
	seed := someSeed(r)
	k, s := sign.Public(seed), sign.Sign(seed, nil)
	if sign.Sign(seed, []byte{}) != s || sign.Sign(seed, make([]byte, 0, 9)) != s {
		t.Fatal("nil and an empty message are signed otherwise")
	}
	for _, message := range [][]byte{nil, {}, make([]byte, 0, 9)} {
		isVerified(t, "no message", k, message, s, true)
		isVerified(t, "no message, spoilt", k, message, turnedSig(s, 256), false)
		isAll(t, "no message in a list", []api.Key{k}, [][]byte{message}, []api.Sig{s}, 1, true)
	}
}

// What is handed in lies in the middle of greater lists, which must be the same behind all calls.
func TestHandedInIsLeft(t *testing.T) {
	r := chance(23)
	for _, n := range edgeLengths {
		seed, room := someSeed(r), someBytes(r, n+300)
		before, message := slices.Clone(room), room[100:100+n]
		k, s := sign.Public(seed), sign.Sign(seed, message)
		sign.Verify(k, message, s)
		sign.Verify(k, message, turnedSig(s, 3))
		if !bytes.Equal(room, before) {
			t.Fatalf("a message of %d bytes, or what lies around it, is changed", n)
		}
	}
}

func TestHandedInListsAreLeft(t *testing.T) {
	r := chance(24)
	keys, messages, sigs := lists(r, 6)
	for i, m := range messages {
		messages[i] = append(m, someBytes(r, 40)...)[:len(m)]
	}
	sigs[3][50] ^= 1
	deep := func() [][]byte {
		var out [][]byte
		for _, m := range messages {
			out = append(out, bytes.Clone(m[:cap(m)]))
		}
		return out
	}
	keysBefore, sigsBefore, before := slices.Clone(keys), slices.Clone(sigs), deep()
	isAll(t, "four of six", keys[:4], messages[:4], sigs[:4], 3, false)
	isAll(t, "three of six", keys[:3], messages[:3], sigs[:3], 3, true)
	isAll(t, "unlike", keys[:3], messages[:2], sigs[:3], -1, false)
	if !slices.Equal(keys, keysBefore) || !slices.Equal(sigs, sigsBefore) || !slices.EqualFunc(deep(), before, bytes.Equal) {
		t.Fatal("a list that is handed in, or what lies behind it, is changed")
	}
}

// A message that is changed once it was handed in changes no answer.
func TestHandedInIsNotKept(t *testing.T) {
	r := chance(25)
	seed, message := someSeed(r), someBytes(r, 70)
	k, s := sign.Public(seed), sign.Sign(seed, message)
	same := bytes.Clone(message)
	message[0] ^= 1
	isVerified(t, "the changed message", k, message, s, false)
	other := sign.Sign(seed, message)
	isVerified(t, "the message as it was", k, same, s, true)
	isVerified(t, "the changed message's own", k, message, other, true)
	if sign.Sign(seed, same) != s {
		t.Fatal("the message as it was is signed otherwise")
	}
}

func TestExamplesKnownP81P82P83(t *testing.T) {
	for _, e := range known {
		seed, message := api.Hash(unhex(e.seed)), unhex(e.message)
		k, s := sign.Public(seed), sign.Sign(seed, message)
		if hex.EncodeToString(k[:]) != e.public || hex.EncodeToString(s[:]) != e.sig {
			t.Errorf("of %s: %x, %x", e.seed, k, s)
		}
		isVerified(t, "a known row", keyOf(e.public), message, api.Sig(unhex(e.sig)), true)
	}
}

func TestExamplesVerifyP83P84(t *testing.T) {
	k, s := keyOf(known[1].public), api.Sig(unhex(known[1].sig))
	isVerified(t, "the message empty", k, nil, s, true)
	isVerified(t, "the message of one byte 0", k, []byte{0}, s, false)
	isVerified(t, "the last bit of S turned", k, nil, turnedSig(s, 511), false)
	isVerified(t, "the lowest bit of S's last byte turned", k, nil, turnedSig(s, 504), false)
	isAll(t, "no keys", nil, nil, nil, 0, true)
	isAll(t, "two keys and one message", []api.Key{k, k}, [][]byte{nil}, []api.Sig{s, s}, -1, false)
}

func BenchmarkSign(b *testing.B) {
	for range b.N {
		sign.Sign(api.Hash{}, nil)
	}
}

func BenchmarkVerify(b *testing.B) {
	k, s := sign.Public(api.Hash{}), sign.Sign(api.Hash{}, nil)
	for range b.N {
		sign.Verify(k, nil, s)
	}
}

package ring_test

import (
	"crypto/ed25519"
	"encoding/hex"
	"math"
	"math/big"
	"math/rand/v2"
	"reflect"
	"slices"
	"sync"
	"testing"

	"farebox/api"
	"farebox/ring"
)

// anyKind is what is asked of every kind, whatever its terms' type.
type anyKind interface {
	wantSeal(t *testing.T, r *rand.Rand)
	wantSignedByRight(t *testing.T, r *rand.Rand)
	wantNoOtherNode(t *testing.T)
	wantFieldsBound(t *testing.T)
	wantSignatureWhole(t *testing.T)
	wantRange(t *testing.T)
	wantKeyOf(t *testing.T)
	wantAsModel(t *testing.T, r *rand.Rand)
	calls(r *rand.Rand, keys api.Ring) []any
}

// wantCheck asks whether a term is found signed.
func (k kind[T]) wantCheck(t *testing.T, what string, r api.Ring, x T, want bool) {
	t.Helper()
	if k.check(r, x) != want {
		t.Errorf("Check%s, %s: %v, of %+v", k.name, what, !want, x)
	}
}

// edges are the base with each number at the limits and beyond that are, or are not, in range.
func (k kind[T]) edges(fit bool) []T {
	var out []T
	for _, f := range k.numbers {
		for _, n := range f.around() {
			if x := k.base; f.fits(n) == fit {
				f.set(&x, n)
				out = append(out, x)
			}
		}
	}
	return out
}

// wantSeal asks for the signature of terms in range and out of it, and that all else is as it was.
func (k kind[T]) wantSeal(t *testing.T, r *rand.Rand) {
	list := slices.Concat([]T{k.base}, k.edges(true), k.edges(false))
	for range 10 {
		list = append(list, k.some(r), k.wild(r))
	}
	for i, x := range list {
		seed := someHash(r)
		if i%5 == 0 {
			seed = api.Hash{}
		}
		want := k.with(x, signedBy(seed, k.say(x)))
		for _, before := range []T{x, k.with(x, someSig(r)), want} {
			if got := k.seal(seed, before); got != want {
				t.Errorf("Seal%s(%x, %+v) = %+v, want %+v", k.name, seed, before, got, want)
			}
		}
	}
}

func TestSealP114(t *testing.T) {
	for i, k := range kinds() {
		k.wantSeal(t, chance(100+uint64(i)))
	}
}

// TestSealOutOfRangeP114 asks the signature of no bytes, which is told in chapter 8.
func TestSealOutOfRangeP114(t *testing.T) {
	b, _ := hex.DecodeString("8f895b3cafe2c9506039d0e2a66382568004674fe8d237785092e40d6aaf483e4fc60168705f31f101596138ce21aa357c0d32a064f423dc3ee4aa3abf53f803")
	for i, s := range []api.Sig{
		ring.SealCert(api.Hash{}, api.Cert{}).Sig,
		ring.SealFreeze(api.Hash{}, api.Freeze{}).Sig,
		ring.SealAck(api.Hash{}, api.Ack{}).Sig,
		ring.SealRevocation(api.Hash{}, api.Revocation{}).Sig,
		ring.SealFloor(api.Hash{}, api.Floor{}).Sig,
		ring.SealReceipt(api.Hash{}, api.Receipt{}).Sig,
		ring.SealHead(api.Hash{}, api.Head{Size: -1}).Sig,
	} {
		if s != api.Sig(b) {
			t.Errorf("kind %d of the seven: %x", i, s)
		}
	}
}

// TestSealOwnSignatureP114 asks that a Freeze's certificate keeps the signature that it has.
func TestSealOwnSignatureP114(t *testing.T) {
	cert, seed := certified(), seedOf(small().Secret, 0)
	if x := ring.SealFreeze(seed, api.Freeze{Cert: cert}); x.Cert != cert || x.Sig == cert.Sig {
		t.Errorf("a sealed freeze is %+v", x)
	}
	if x := ring.SealRevocation(seed, api.Revocation{Cert: cert}); x.Cert != cert || x.Sig == cert.Sig {
		t.Errorf("a sealed revocation is %+v", x)
	}
}

// wantSignedByRight asks terms in range, at their limits and between, that the right node has sealed.
func (k kind[T]) wantSignedByRight(t *testing.T, r *rand.Rand) {
	c := full()
	keys, _ := ring.Make(c)
	list := append(k.edges(true), k.base)
	for range 10 {
		list = append(list, k.some(r))
	}
	for _, x := range list {
		seed, _ := ring.Seed(c, k.signer(x))
		k.wantCheck(t, "sealed by the right node", keys, k.seal(seed, x), true)
	}
}

func TestSignedByRightP115P117(t *testing.T) {
	for i, k := range kinds() {
		k.wantSignedByRight(t, chance(200+uint64(i)))
	}
}

// wantNoOtherNode asks every node of a fleet, and one of a fleet with another secret, to seal.
func (k kind[T]) wantNoOtherNode(t *testing.T) {
	c := small()
	keys, _ := ring.Make(c)
	for node := range c.Gates + c.Wallets + 1 {
		seed, _ := ring.Seed(c, node)
		k.wantCheck(t, "sealed by each node", keys, k.seal(seed, k.base), node == k.signer(k.base))
	}
	seed := seedOf(api.Hash{1: 1}, k.signer(k.base))
	k.wantCheck(t, "sealed in another fleet", keys, k.seal(seed, k.base), false)
}

func TestNoOtherNodeP115(t *testing.T) {
	for _, k := range kinds() {
		k.wantNoOtherNode(t)
	}
	c := small()
	keys, _ := ring.Make(c)
	for gate := 1; gate <= 3; gate++ {
		for node := range 6 {
			seed, _ := ring.Seed(c, node)
			x := api.Ack{Serial: 1, Gate: gate}
			ackKind().wantCheck(t, "sealed by each node", keys, ring.SealAck(seed, x), node == gate)
		}
	}
}

// sealed is the base as the right node of the small fleet has sealed it, and that fleet's ring.
func (k kind[T]) sealed() (api.Ring, T) {
	secret := small().Secret
	return ringOf(secret, 3), k.seal(seedOf(secret, k.signer(k.base)), k.base)
}

// wantFieldsBound asks a signed term with one field changed afterwards: each number, each byte.
func (k kind[T]) wantFieldsBound(t *testing.T) {
	keys, x := k.sealed()
	k.wantCheck(t, "as it was sealed", keys, x, true)
	for _, f := range k.numbers {
		for _, n := range f.around() {
			y := x
			if f.set(&y, n); y != x {
				k.wantCheck(t, f.name+" changed", keys, y, false)
			}
		}
	}
	for _, f := range k.blobs {
		for i := range f.place(&x) {
			y := x
			f.place(&y)[i] ^= 1 << (i % 8)
			k.wantCheck(t, f.name+" changed", keys, y, false)
		}
	}
}

func TestFieldsBoundP115(t *testing.T) {
	for _, k := range kinds() {
		k.wantFieldsBound(t)
	}
}

// higher is a signature with the order of the base point added to its number.
func higher(s api.Sig) api.Sig {
	n, _ := new(big.Int).SetString("1000000000000000000000000000000014def9dea2f79cd65812631a5cf5d3ed", 16)
	slices.Reverse(s[32:])
	n.Add(n, new(big.Int).SetBytes(s[32:])).FillBytes(s[32:])
	slices.Reverse(s[32:])
	return s
}

// wantSignatureWhole asks a signed term with each byte of its signature changed, and with other signatures.
func (k kind[T]) wantSignatureWhole(t *testing.T) {
	keys, x := k.sealed()
	s := *k.sig(&x)
	for i := range s {
		spoilt := s
		spoilt[i] ^= 1 << (i % 8)
		k.wantCheck(t, "a byte of the signature changed", keys, k.with(x, spoilt), false)
	}
	k.wantCheck(t, "no signature", keys, k.with(x, api.Sig{}), false)
	k.wantCheck(t, "the order added", keys, k.with(x, higher(s)), false)
	k.wantCheck(t, "halves swapped", keys, k.with(x, api.Sig(slices.Concat(s[32:], s[:32]))), false)
	seed := seedOf(small().Secret, k.signer(x))
	k.wantCheck(t, "the signature of no bytes", keys, k.with(x, signedBy(seed, nil)), false)
	k.wantCheck(t, "the signature once more", keys, k.with(x, s), true)
}

func TestSignatureWholeP115(t *testing.T) {
	for _, k := range kinds() {
		k.wantSignatureWhole(t)
	}
}

// wantRange asks terms out of range, sealed by whoever might have: as they are, and as what they would be if their numbers were cut.
func (k kind[T]) wantRange(t *testing.T) {
	c := full()
	keys, _ := ring.Make(c)
	for _, x := range k.edges(false) {
		for _, node := range []int{0, 1, 2, 16} {
			seed, _ := ring.Seed(c, node)
			k.wantCheck(t, "out of range", keys, k.seal(seed, x), false)
		}
	}
	for _, f := range k.numbers {
		for _, n := range f.around() {
			cut := int64(uint32(n))
			if f.fits(n) || !f.fits(cut) {
				continue
			}
			x, y := k.base, k.base
			f.set(&x, n)
			f.set(&y, cut)
			seed, _ := ring.Seed(c, k.signer(y))
			k.wantCheck(t, f.name+" cut", keys, k.seal(seed, y), true)
			k.wantCheck(t, f.name+" with the signature of the cut one", keys, k.with(x, signedBy(seed, k.say(y))), false)
		}
	}
}

func TestRangeP115P117(t *testing.T) {
	for _, k := range kinds() {
		k.wantRange(t)
	}
}

// openKey is the neutral point: under it openSig is a signature of all messages. So it is seen which key is asked, and what is refused ahead of that.
func openKey() api.Key { return api.Key{1} }
func openSig() api.Sig { return api.Sig{1} }

// wantKeyOf asks whose key is held against a term, by rings of which that one alone is open.
func (k kind[T]) wantKeyOf(t *testing.T) {
	for node := range 4 {
		keys := ringOf(small().Secret, 3)
		if node == 0 {
			keys.Issuer = openKey()
		} else {
			keys.Gates[node-1] = openKey()
		}
		x := k.with(k.base, openSig())
		k.wantCheck(t, "one key open", keys, x, node == k.signer(x))
	}
	open := api.Ring{Issuer: openKey(), Gates: slices.Repeat([]api.Key{openKey()}, 40)}
	for _, x := range k.edges(true) {
		k.wantCheck(t, "all keys open, in range", open, k.with(x, openSig()), true)
	}
	for _, x := range k.edges(false) {
		k.wantCheck(t, "all keys open, out of range", open, k.with(x, openSig()), false)
	}
	nowhere := api.Key{2} // the bytes of no point
	shut := api.Ring{Issuer: nowhere, Gates: slices.Repeat([]api.Key{nowhere}, 3)}
	_, sealed := k.sealed()
	k.wantCheck(t, "keys that are no points", shut, sealed, false)
	k.wantCheck(t, "keys that are no points", shut, k.with(k.base, openSig()), false)
	k.wantCheck(t, "no keys at all", api.Ring{}, sealed, false)
}

func TestKeyOfP115(t *testing.T) {
	for _, k := range kinds() {
		k.wantKeyOf(t)
	}
}

// TestGatesOfRingP115 asks acknowledgements of gates below, at each end of, and above those that rings have, and terms of the issuer under the same rings.
func TestGatesOfRingP115(t *testing.T) {
	secret := small().Secret
	for _, gates := range []int{0, 1, 2, 3, 15, 16, 17, 20} {
		keys := ringOf(secret, gates)
		for _, gate := range []int{1, 2, 3, gates - 1, gates, gates + 1, 15, 16, 17, 18, 0, -1, -gates, 1<<32 + 1, 1 << 32, math.MaxInt, math.MinInt, math.MinInt + 1} {
			node := max(0, min(gate, 20))
			x := ring.SealAck(seedOf(secret, node), api.Ack{Serial: 3, Gate: gate, Index: 2})
			ackKind().wantCheck(t, "gates of a ring", keys, x, 1 <= gate && gate <= min(gates, 16))
		}
		if !ring.CheckCert(keys, ring.SealCert(seedOf(secret, 0), baseCert())) || !ring.CheckFloor(keys, ring.SealFloor(seedOf(secret, 0), api.Floor{Floor: 1})) {
			t.Errorf("a ring of %d gates does not find what the issuer has signed", gates)
		}
	}
}

// TestNoKeyIsNotZeroP115 asks acknowledgements of a gate that the ring lacks, with a signature that verifies now and then under the key of zeros, which is a point.
func TestNoKeyIsNotZeroP115(t *testing.T) {
	issuer := keyOf(seedOf(small().Secret, 0))
	taken := 0
	for i := range 64 {
		x := api.Ack{Serial: 3, Gate: 2, Value: api.Hash{byte(i)}, Sig: openSig()}
		if ring.CheckAck(api.Ring{Issuer: issuer, Gates: make([]api.Key, 2)}, x) {
			taken++
		}
		ackKind().wantCheck(t, "a gate that is not there", api.Ring{Issuer: issuer, Gates: make([]api.Key, 1, 2)}, x, false)
	}
	if taken == 0 {
		t.Error("nothing verifies under the key of zeros: the test asks nothing")
	}
}

// TestNilAndEmptyRing asks that no gates are no gates, however they are handed in.
func TestNilAndEmptyRing(t *testing.T) {
	secret := small().Secret
	for _, gates := range [][]api.Key{nil, {}, ringOf(secret, 3).Gates[:0]} {
		keys := api.Ring{Issuer: keyOf(seedOf(secret, 0)), Gates: gates}
		for gate := range 4 {
			ackKind().wantCheck(t, "no gates", keys, ring.SealAck(seedOf(secret, gate), api.Ack{Serial: 3, Gate: gate}), false)
		}
		if !ring.CheckHead(keys, ring.SealHead(seedOf(secret, 0), api.Head{})) {
			t.Error("a ring of no gates does not find what the issuer has signed")
		}
	}
}

// TestOwnSignatureP115 asks freezes and revocations whose certificate's signature does not verify: theirs does.
func TestOwnSignatureP115(t *testing.T) {
	seed, gate := seedOf(small().Secret, 0), seedOf(small().Secret, 1)
	keys := ringOf(small().Secret, 3)
	for _, cert := range []api.Cert{ring.SealCert(seed, baseCert()), baseCert(), certified(), ring.SealCert(gate, baseCert())} {
		freezeKind().wantCheck(t, "any certificate", keys, ring.SealFreeze(seed, api.Freeze{Cert: cert}), true)
		revocationKind().wantCheck(t, "any certificate", keys, ring.SealRevocation(seed, api.Revocation{Cert: cert}), true)
		freezeKind().wantCheck(t, "its certificate's signature alone", keys, api.Freeze{Cert: cert, Sig: cert.Sig}, false)
		revocationKind().wantCheck(t, "its certificate's signature alone", keys, api.Revocation{Cert: cert, Sig: cert.Sig}, false)
		freezeKind().wantCheck(t, "sealed by a gate", keys, ring.SealFreeze(gate, api.Freeze{Cert: cert}), false)
		revocationKind().wantCheck(t, "sealed by a gate", keys, ring.SealRevocation(gate, api.Revocation{Cert: cert}), false)
	}
}

// TestKindsApartP115 asks the signatures of one kind in terms of another one with the same fields.
func TestKindsApartP115(t *testing.T) {
	seed := seedOf(small().Secret, 0)
	keys := ringOf(small().Secret, 3)
	cert := ring.SealCert(seed, baseCert())
	freeze, revocation := ring.SealFreeze(seed, api.Freeze{Cert: cert}), ring.SealRevocation(seed, api.Revocation{Cert: cert})
	if freeze.Sig == revocation.Sig {
		t.Error("a freeze and a revocation have one signature")
	}
	freezeKind().wantCheck(t, "a revocation's signature", keys, api.Freeze{Cert: cert, Sig: revocation.Sig}, false)
	revocationKind().wantCheck(t, "a freeze's signature", keys, api.Revocation{Cert: cert, Sig: freeze.Sig}, false)
	certKind().wantCheck(t, "a freeze's signature", keys, certKind().with(cert, freeze.Sig), false)
	floor, head := ring.SealFloor(seed, api.Floor{Floor: 5}), ring.SealHead(seed, api.Head{Size: 5})
	floorKind().wantCheck(t, "a head's signature", keys, api.Floor{Floor: 5, Sig: head.Sig}, false)
	headKind().wantCheck(t, "a floor's signature", keys, api.Head{Size: 5, Sig: floor.Sig}, false)
}

// asked tells what Check must answer, by Go's library: under the rings of a fleet its keys take just what the chapter's do.
func (k kind[T]) asked(r api.Ring, x T) bool {
	node := k.signer(x)
	if len(k.say(x)) == 0 || node < 0 || node > len(r.Gates) {
		return false
	}
	key := r.Issuer
	if node > 0 {
		key = r.Gates[node-1]
	}
	return ed25519.Verify(key[:], k.say(x), (*k.sig(&x))[:])
}

// wantAsModel asks terms of chance, sealed by nodes of chance, under rings of chance.
func (k kind[T]) wantAsModel(t *testing.T, r *rand.Rand) {
	secret := small().Secret
	whole := ringOf(secret, 18)
	for range 60 {
		x := k.wild(r)
		node := max(0, min(k.signer(x), 18))
		if r.IntN(3) == 0 {
			node = r.IntN(19)
		}
		if x = k.seal(seedOf(secret, node), x); r.IntN(4) == 0 {
			(*k.sig(&x))[r.IntN(64)] ^= byte(r.IntN(256))
		}
		keys := api.Ring{Issuer: whole.Issuer, Gates: whole.Gates[:r.IntN(19)]}
		k.wantCheck(t, "any term", keys, x, k.asked(keys, x))
	}
}

func TestAnyTermsP115(t *testing.T) {
	for i, k := range kinds() {
		k.wantAsModel(t, chance(300+uint64(i)))
	}
}

// calls is what all calls of the kind answer for terms of chance.
func (k kind[T]) calls(r *rand.Rand, keys api.Ring) []any {
	x, seed := k.wild(r), someHash(r)
	sealed := k.seal(seed, x)
	return []any{sealed, k.check(keys, x), k.check(keys, sealed)}
}

// wildEntry is an entry of any numbers and bytes.
func wildEntry(r *rand.Rand) api.Entry {
	x := api.Entry{Cert: certKind().wild(r), Index: int(r.Uint64() >> r.IntN(64)), Value: someHash(r), Frozen: r.IntN(2) == 0, Revoked: r.IntN(2) == 0}
	if r.IntN(2) == 0 {
		x.Freeze, x.Revoke = someSig(r), someSig(r)
	}
	return x
}

// TestAnyArguments asks that calls end without a panic at any arguments, and answer the same in whatever order and beside whichever others they are called.
func TestAnyArguments(t *testing.T) {
	run := func() (all [][]any) {
		r := chance(400)
		for range 20 {
			keys := api.Ring{Issuer: api.Key(someHash(r))}
			for range r.IntN(20) {
				keys.Gates = append(keys.Gates, api.Key(someHash(r)))
			}
			for _, k := range kinds() {
				all = append(all, k.calls(r, keys))
			}
			c := api.Config{Gates: r.IntN(18), Wallets: r.IntN(10), Rows: r.IntN(300), Flash: r.IntN(1 << 21), Serials: r.IntN(70000), Secret: someHash(r)}
			made, err := ring.Make(c)
			seed, ok := ring.Seed(c, r.IntN(30)-2)
			all = append(all, []any{ring.Check(c), made, err, seed, ok, ring.CheckEntry(keys, wildEntry(r))})
		}
		return all
	}
	want := run()
	var several sync.WaitGroup
	for range 4 {
		several.Go(func() {
			if !reflect.DeepEqual(run(), want) {
				t.Error("the same arguments have other answers")
			}
		})
	}
	several.Wait()
}

// TestRingIsLeft asks that a ring that is handed in is left as it is, with the keys that lie around its own.
func TestRingIsLeft(t *testing.T) {
	secret := small().Secret
	room := ringOf(secret, 20).Gates
	kept := slices.Clone(room)
	keys := api.Ring{Issuer: keyOf(seedOf(secret, 0)), Gates: room[2:8]}
	r := chance(500)
	for range 10 {
		for _, k := range kinds() {
			k.calls(r, keys)
		}
		ring.CheckEntry(keys, wildEntry(r))
		x := rightEntry(secret, 3, r.IntN(4))
		if err := ring.CheckEntry(keys, x); err != api.OK {
			t.Errorf("CheckEntry = %d", err)
		}
	}
	for gate := range 10 {
		ring.CheckAck(keys, ring.SealAck(seedOf(secret, gate+2), api.Ack{Serial: 1, Gate: gate}))
	}
	if !slices.Equal(room, kept) || keys.Issuer != keyOf(seedOf(secret, 0)) {
		t.Error("a ring that is handed in, or what lies around its keys, is changed")
	}
}

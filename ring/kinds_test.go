package ring_test

import (
	"crypto/ed25519"
	"crypto/hkdf"
	"crypto/sha256"
	"encoding/binary"
	"math"
	"math/rand/v2"

	"farebox/api"
	"farebox/ring"
	"farebox/terms"
)

// chance is a source of numbers that are the same in every run.
func chance(n uint64) *rand.Rand { return rand.New(rand.NewPCG(11, n)) }

// fill writes bytes of chance.
func fill(r *rand.Rand, b []byte) {
	for i := range b {
		b[i] = byte(r.Uint32())
	}
}

func someHash(r *rand.Rand) (h api.Hash) {
	fill(r, h[:])
	return h
}

func someSig(r *rand.Rand) (s api.Sig) {
	fill(r, s[:])
	return s
}

// small is a fleet with a few nodes of each kind, full the greatest that may be.
func small() api.Config {
	return api.Config{Gates: 3, Wallets: 2, Rows: 4, Flash: 4096, Serials: 9, Secret: api.Hash{5: 77, 31: 1}}
}

func full() api.Config {
	return api.Config{Gates: 16, Wallets: 8, Rows: 256, Flash: 1048576, Serials: 65535, Secret: api.Hash{0: 200}}
}

// seedOf is the seed of any number below a secret, by Go's library.
func seedOf(secret api.Hash, node int) api.Hash {
	info := binary.BigEndian.AppendUint64([]byte("node\x00"), uint64(node))
	b, err := hkdf.Expand(sha256.New, secret[:], string(info), 32)
	if err != nil {
		panic(err)
	}
	return api.Hash(b)
}

// keyOf and signedBy are the key of a seed and its signature on bytes, by Go's library.
func keyOf(seed api.Hash) api.Key { return api.Key(ed25519.NewKeyFromSeed(seed[:])[32:]) }

func signedBy(seed api.Hash, say []byte) api.Sig {
	return api.Sig(ed25519.Sign(ed25519.NewKeyFromSeed(seed[:]), say))
}

// ringOf is a ring of so many gates below a secret, by Go's library: also of more, or fewer, than a configuration has.
func ringOf(secret api.Hash, gates int) api.Ring {
	r := api.Ring{Issuer: keyOf(seedOf(secret, 0))}
	for i := range gates {
		r.Gates = append(r.Gates, keyOf(seedOf(secret, i+1)))
	}
	return r
}

// number is a field that has a range.
type number[T any] struct {
	name        string
	least, most int64
	set         func(*T, int64)
}

// around are the limits of a field, those beside them, and numbers far away, some of which would fit if they were cut.
func (f number[T]) around() []int64 {
	return []int64{
		f.least, f.least + 1, f.most - 1, f.most, f.least - 1, f.most + 1, 0, -1,
		f.least + 1<<32, f.most + 1<<32, f.least - 1<<32, math.MaxInt32, math.MinInt32, math.MaxInt64, math.MinInt64, math.MinInt64 + f.least,
	}
}

func (f number[T]) fits(n int64) bool { return f.least <= n && n <= f.most }

// blob is a field of any bytes that is signed.
type blob[T any] struct {
	name  string
	place func(*T) []byte
}

// kind is one of the seven as the chapter tells it, with the calls that are its own.
type kind[T comparable] struct {
	name    string
	base    T // a term in range
	seal    func(api.Hash, T) T
	check   func(api.Ring, T) bool
	say     func(T) []byte
	sig     func(*T) *api.Sig
	signer  func(T) int // the node that must have signed
	numbers []number[T]
	blobs   []blob[T]
}

func byIssuer[T any](T) int { return 0 }

// certNumbers and certBlobs are the signed fields of a Cert, wherever it stands.
func certNumbers[T any](cert func(*T) *api.Cert) []number[T] {
	return []number[T]{
		{"Serial", 1, 65535, func(x *T, n int64) { cert(x).Serial = int(n) }},
		{"Rides", 1, 4096, func(x *T, n int64) { cert(x).Rides = int(n) }},
		{"Price", 0, 1000000000, func(x *T, n int64) { cert(x).Price = n }},
	}
}

func certBlobs[T any](cert func(*T) *api.Cert) []blob[T] {
	return []blob[T]{{"Anchor", func(x *T) []byte { return cert(x).Anchor[:] }}}
}

func baseCert() api.Cert {
	return api.Cert{Serial: 7, Rides: 3, Price: 250, Anchor: api.Hash{9: 4}}
}

// certified is baseCert with a signature of its own, which need not verify.
func certified() api.Cert {
	c := baseCert()
	c.Sig = api.Sig{1, 2, 63: 3}
	return c
}

func certKind() kind[api.Cert] {
	same := func(x *api.Cert) *api.Cert { return x }
	return kind[api.Cert]{
		name: "Cert", base: baseCert(), seal: ring.SealCert, check: ring.CheckCert, say: terms.SayCert, signer: byIssuer[api.Cert],
		sig:     func(x *api.Cert) *api.Sig { return &x.Sig },
		numbers: certNumbers(same), blobs: certBlobs(same),
	}
}

func freezeKind() kind[api.Freeze] {
	cert := func(x *api.Freeze) *api.Cert { return &x.Cert }
	return kind[api.Freeze]{
		name: "Freeze", base: api.Freeze{Cert: certified()}, seal: ring.SealFreeze, check: ring.CheckFreeze, say: terms.SayFreeze, signer: byIssuer[api.Freeze],
		sig:     func(x *api.Freeze) *api.Sig { return &x.Sig },
		numbers: certNumbers(cert), blobs: append(certBlobs(cert), blob[api.Freeze]{"Cert.Sig", func(x *api.Freeze) []byte { return x.Cert.Sig[:] }}),
	}
}

func revocationKind() kind[api.Revocation] {
	cert := func(x *api.Revocation) *api.Cert { return &x.Cert }
	return kind[api.Revocation]{
		name: "Revocation", base: api.Revocation{Cert: certified()}, seal: ring.SealRevocation, check: ring.CheckRevocation, say: terms.SayRevocation, signer: byIssuer[api.Revocation],
		sig:     func(x *api.Revocation) *api.Sig { return &x.Sig },
		numbers: certNumbers(cert), blobs: append(certBlobs(cert), blob[api.Revocation]{"Cert.Sig", func(x *api.Revocation) []byte { return x.Cert.Sig[:] }}),
	}
}

func ackKind() kind[api.Ack] {
	return kind[api.Ack]{
		name: "Ack", base: api.Ack{Serial: 7, Gate: 2, Index: 1, Value: api.Hash{9: 4}}, seal: ring.SealAck, check: ring.CheckAck, say: terms.SayAck,
		signer: func(x api.Ack) int { return x.Gate },
		sig:    func(x *api.Ack) *api.Sig { return &x.Sig },
		numbers: []number[api.Ack]{
			{"Serial", 1, 65535, func(x *api.Ack, n int64) { x.Serial = int(n) }},
			{"Gate", 1, 16, func(x *api.Ack, n int64) { x.Gate = int(n) }},
			{"Index", 0, 4096, func(x *api.Ack, n int64) { x.Index = int(n) }},
		},
		blobs: []blob[api.Ack]{{"Value", func(x *api.Ack) []byte { return x.Value[:] }}},
	}
}

func floorKind() kind[api.Floor] {
	return kind[api.Floor]{
		name: "Floor", base: api.Floor{Floor: 258}, seal: ring.SealFloor, check: ring.CheckFloor, say: terms.SayFloor, signer: byIssuer[api.Floor],
		sig:     func(x *api.Floor) *api.Sig { return &x.Sig },
		numbers: []number[api.Floor]{{"Floor", 1, 65536, func(x *api.Floor, n int64) { x.Floor = int(n) }}},
	}
}

func receiptKind() kind[api.Receipt] {
	return kind[api.Receipt]{
		name: "Receipt", base: api.Receipt{Serial: 7, Rides: 2, Amount: 500}, seal: ring.SealReceipt, check: ring.CheckReceipt, say: terms.SayReceipt, signer: byIssuer[api.Receipt],
		sig: func(x *api.Receipt) *api.Sig { return &x.Sig },
		numbers: []number[api.Receipt]{
			{"Serial", 1, 65535, func(x *api.Receipt, n int64) { x.Serial = int(n) }},
			{"Rides", 0, 4096, func(x *api.Receipt, n int64) { x.Rides = int(n) }},
			{"Amount", 0, math.MaxInt64, func(x *api.Receipt, n int64) { x.Amount = n }},
		},
	}
}

func headKind() kind[api.Head] {
	return kind[api.Head]{
		name: "Head", base: api.Head{Size: 5, Root: api.Hash{9: 4}}, seal: ring.SealHead, check: ring.CheckHead, say: terms.SayHead, signer: byIssuer[api.Head],
		sig:     func(x *api.Head) *api.Sig { return &x.Sig },
		numbers: []number[api.Head]{{"Size", 0, 65536, func(x *api.Head, n int64) { x.Size = int(n) }}},
		blobs:   []blob[api.Head]{{"Root", func(x *api.Head) []byte { return x.Root[:] }}},
	}
}

// kinds are all seven.
func kinds() []anyKind {
	return []anyKind{certKind(), freezeKind(), ackKind(), revocationKind(), floorKind(), receiptKind(), headKind()}
}

// some is a term in range, with any signature.
func (k kind[T]) some(r *rand.Rand) T {
	x := k.base
	for _, f := range k.numbers {
		n := f.least
		if r.IntN(4) > 0 {
			n += int64(r.Uint64N(uint64(f.most-f.least) + 1))
		}
		f.set(&x, n)
	}
	for _, f := range k.blobs {
		fill(r, f.place(&x))
	}
	*k.sig(&x) = someSig(r)
	return x
}

// wild is a term of any numbers and bytes.
func (k kind[T]) wild(r *rand.Rand) T {
	x := k.some(r)
	for _, f := range k.numbers {
		if r.IntN(3) == 0 {
			f.set(&x, int64(r.Uint64()>>r.IntN(64)))
		}
	}
	return x
}

// with is a term with another signature.
func (k kind[T]) with(x T, s api.Sig) T {
	*k.sig(&x) = s
	return x
}

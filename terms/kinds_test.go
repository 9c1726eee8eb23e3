package terms_test

import (
	"encoding/binary"
	"encoding/hex"
	"math"
	"math/rand/v2"
	"slices"
	"strings"

	"farebox/api"
	"farebox/terms"
)

// chance is a source of numbers that are the same in every run.
func chance(n uint64) *rand.Rand { return rand.New(rand.NewPCG(10, n)) }

// unhex reads the hex of a test's table, in which blanks and commas may stand.
func unhex(text string) []byte {
	b, err := hex.DecodeString(strings.NewReplacer(" ", "", ",", "").Replace(text))
	if err != nil {
		panic(err)
	}
	return b
}

func hashOf(c byte) (h api.Hash) {
	for i := range h {
		h[i] = c
	}
	return h
}

func sigOf(c byte) (s api.Sig) {
	for i := range s {
		s[i] = c
	}
	return s
}

// exampleCert is the Cert C of the chapter's examples.
func exampleCert() api.Cert {
	return api.Cert{Serial: 7, Rides: 3, Price: 250, Anchor: hashOf(0x11), Sig: sigOf(0x22)}
}

// u32 and u64 are the lowest four and eight bytes of a number: what a message would hold, whether it fits or not.
func u32(n int) []byte   { return binary.BigEndian.AppendUint32(nil, uint32(n)) }
func u64(n int64) []byte { return binary.BigEndian.AppendUint64(nil, uint64(n)) }

func head(domain byte) []byte { return []byte{'F', 'B', 1, domain} }

// part is what is signed in a message, and its signature.
type part struct {
	say []byte
	sig api.Sig
}

// number is a field that has a range.
type number[T any] struct {
	name  string
	width int // its bytes in a message
	least int64
	most  func(T) int64
	set   func(*T, int64)
}

// blob is a field of any bytes.
type blob[T any] struct {
	name   string
	signed bool
	place  func(*T) []byte
}

// kind is one of the ten as the chapter tells it, with the calls that are its own.
type kind[T comparable] struct {
	name    string
	domain  byte
	base    T // a term in range
	encode  func(T) ([]byte, api.Errno)
	decode  func([]byte) (T, api.Errno)
	say     func(T) []byte // nil, if the kind has none
	body    func(T) []byte // the fields in bytes
	signed  func(T) []byte // those that are signed
	parts   func(T) []part
	numbers []number[T]
	blobs   []blob[T]
}

func upTo[T any](most int64) func(T) int64 { return func(T) int64 { return most } }

func certBody(x api.Cert) []byte { return slices.Concat(certSigned(x), x.Sig[:]) }

func certSigned(x api.Cert) []byte {
	return slices.Concat(u32(x.Serial), u32(x.Rides), u64(x.Price), x.Anchor[:])
}

func certParts(x api.Cert) []part {
	return []part{{slices.Concat(head(1), certSigned(x)), x.Sig}}
}

// certNumbers and certBlobs are the fields of a Cert, wherever it stands.
func certNumbers[T any](cert func(*T) *api.Cert) []number[T] {
	return []number[T]{
		{"Serial", 4, 1, upTo[T](65535), func(x *T, n int64) { cert(x).Serial = int(n) }},
		{"Rides", 4, 1, upTo[T](4096), func(x *T, n int64) { cert(x).Rides = int(n) }},
		{"Price", 8, 0, upTo[T](1000000000), func(x *T, n int64) { cert(x).Price = n }},
	}
}

func certBlobs[T any](sigIsSigned bool, cert func(*T) *api.Cert) []blob[T] {
	return []blob[T]{
		{"Anchor", true, func(x *T) []byte { return cert(x).Anchor[:] }},
		{"Sig of the Cert", sigIsSigned, func(x *T) []byte { return cert(x).Sig[:] }},
	}
}

func certKind() kind[api.Cert] {
	self := func(x *api.Cert) *api.Cert { return x }
	return kind[api.Cert]{
		name: "Cert", domain: 1, base: exampleCert(),
		encode: terms.EncodeCert, decode: terms.DecodeCert, say: terms.SayCert,
		body: certBody, signed: certSigned, parts: certParts,
		numbers: certNumbers(self), blobs: certBlobs(false, self),
	}
}

func ticketKind() kind[api.Ticket] {
	cert := func(x *api.Ticket) *api.Cert { return &x.Cert }
	return kind[api.Ticket]{
		name: "Ticket", domain: 2, base: api.Ticket{Cert: exampleCert(), Index: 1, Value: hashOf(0x33)},
		encode: terms.EncodeTicket, decode: terms.DecodeTicket,
		body:  func(x api.Ticket) []byte { return slices.Concat(certBody(x.Cert), u32(x.Index), x.Value[:]) },
		parts: func(x api.Ticket) []part { return certParts(x.Cert) },
		numbers: append(certNumbers(cert),
			number[api.Ticket]{"Index", 4, 1, func(x api.Ticket) int64 { return int64(x.Cert.Rides) }, func(x *api.Ticket, n int64) { x.Index = int(n) }}),
		blobs: append(certBlobs(false, cert), blob[api.Ticket]{"Value", false, func(x *api.Ticket) []byte { return x.Value[:] }}),
	}
}

func entryBody(x api.Entry) []byte {
	b := slices.Concat(certBody(x.Cert), u32(x.Index), x.Value[:])
	if x.Frozen {
		b = slices.Concat(b, []byte{1}, x.Freeze[:])
	} else {
		b = append(b, 0)
	}
	if x.Revoked {
		return slices.Concat(b, []byte{1}, x.Revoke[:])
	}
	return append(b, 0)
}

func entryParts(x api.Entry) []part {
	found := certParts(x.Cert)
	if x.Frozen {
		found = append(found, part{slices.Concat(head(4), certBody(x.Cert)), x.Freeze})
	}
	if x.Revoked {
		found = append(found, part{slices.Concat(head(6), certBody(x.Cert)), x.Revoke})
	}
	return found
}

// entryKind are the entries with these flags.
func entryKind(frozen, revoked bool) kind[api.Entry] {
	cert := func(x *api.Entry) *api.Cert { return &x.Cert }
	k := kind[api.Entry]{
		name: "Entry", domain: 3, base: api.Entry{Cert: exampleCert(), Value: hashOf(0x33), Frozen: frozen, Revoked: revoked},
		encode: terms.EncodeEntry, decode: terms.DecodeEntry,
		body: entryBody, parts: entryParts,
		numbers: append(certNumbers(cert),
			number[api.Entry]{"Index", 4, 0, func(x api.Entry) int64 { return int64(x.Cert.Rides) }, func(x *api.Entry, n int64) { x.Index = int(n) }}),
		blobs: append(certBlobs(false, cert), blob[api.Entry]{"Value", false, func(x *api.Entry) []byte { return x.Value[:] }}),
	}
	if frozen {
		k.name += ", frozen"
		k.blobs = append(k.blobs, blob[api.Entry]{"Freeze", false, func(x *api.Entry) []byte { return x.Freeze[:] }})
	}
	if revoked {
		k.name += ", revoked"
		k.blobs = append(k.blobs, blob[api.Entry]{"Revoke", false, func(x *api.Entry) []byte { return x.Revoke[:] }})
	}
	return k
}

func freezeKind() kind[api.Freeze] {
	cert := func(x *api.Freeze) *api.Cert { return &x.Cert }
	return kind[api.Freeze]{
		name: "Freeze", domain: 4, base: api.Freeze{Cert: exampleCert(), Sig: sigOf(0x44)},
		encode: terms.EncodeFreeze, decode: terms.DecodeFreeze, say: terms.SayFreeze,
		body:   func(x api.Freeze) []byte { return slices.Concat(certBody(x.Cert), x.Sig[:]) },
		signed: func(x api.Freeze) []byte { return certBody(x.Cert) },
		parts: func(x api.Freeze) []part {
			return append(certParts(x.Cert), part{slices.Concat(head(4), certBody(x.Cert)), x.Sig})
		},
		numbers: certNumbers(cert),
		blobs:   append(certBlobs(true, cert), blob[api.Freeze]{"Sig", false, func(x *api.Freeze) []byte { return x.Sig[:] }}),
	}
}

func ackKind() kind[api.Ack] {
	signed := func(x api.Ack) []byte {
		return slices.Concat(u32(x.Serial), u32(x.Gate), u32(x.Index), x.Value[:])
	}
	return kind[api.Ack]{
		name: "Ack", domain: 5, base: api.Ack{Serial: 7, Gate: 2, Index: 3, Value: hashOf(0x33), Sig: sigOf(0x44)},
		encode: terms.EncodeAck, decode: terms.DecodeAck, say: terms.SayAck,
		body:   func(x api.Ack) []byte { return slices.Concat(signed(x), x.Sig[:]) },
		signed: signed,
		parts:  func(x api.Ack) []part { return []part{{slices.Concat(head(5), signed(x)), x.Sig}} },
		numbers: []number[api.Ack]{
			{"Serial", 4, 1, upTo[api.Ack](65535), func(x *api.Ack, n int64) { x.Serial = int(n) }},
			{"Gate", 4, 1, upTo[api.Ack](16), func(x *api.Ack, n int64) { x.Gate = int(n) }},
			{"Index", 4, 0, upTo[api.Ack](4096), func(x *api.Ack, n int64) { x.Index = int(n) }},
		},
		blobs: []blob[api.Ack]{
			{"Value", true, func(x *api.Ack) []byte { return x.Value[:] }},
			{"Sig", false, func(x *api.Ack) []byte { return x.Sig[:] }},
		},
	}
}

func revocationKind() kind[api.Revocation] {
	cert := func(x *api.Revocation) *api.Cert { return &x.Cert }
	return kind[api.Revocation]{
		name: "Revocation", domain: 6, base: api.Revocation{Cert: exampleCert(), Sig: sigOf(0x44)},
		encode: terms.EncodeRevocation, decode: terms.DecodeRevocation, say: terms.SayRevocation,
		body:   func(x api.Revocation) []byte { return slices.Concat(certBody(x.Cert), x.Sig[:]) },
		signed: func(x api.Revocation) []byte { return certBody(x.Cert) },
		parts: func(x api.Revocation) []part {
			return append(certParts(x.Cert), part{slices.Concat(head(6), certBody(x.Cert)), x.Sig})
		},
		numbers: certNumbers(cert),
		blobs:   append(certBlobs(true, cert), blob[api.Revocation]{"Sig", false, func(x *api.Revocation) []byte { return x.Sig[:] }}),
	}
}

func floorKind() kind[api.Floor] {
	signed := func(x api.Floor) []byte { return u32(x.Floor) }
	return kind[api.Floor]{
		name: "Floor", domain: 7, base: api.Floor{Floor: 258, Sig: sigOf(0x44)},
		encode: terms.EncodeFloor, decode: terms.DecodeFloor, say: terms.SayFloor,
		body:    func(x api.Floor) []byte { return slices.Concat(signed(x), x.Sig[:]) },
		signed:  signed,
		parts:   func(x api.Floor) []part { return []part{{slices.Concat(head(7), signed(x)), x.Sig}} },
		numbers: []number[api.Floor]{{"Floor", 4, 1, upTo[api.Floor](65536), func(x *api.Floor, n int64) { x.Floor = int(n) }}},
		blobs:   []blob[api.Floor]{{"Sig", false, func(x *api.Floor) []byte { return x.Sig[:] }}},
	}
}

func receiptKind() kind[api.Receipt] {
	signed := func(x api.Receipt) []byte {
		return slices.Concat(u32(x.Serial), u32(x.Rides), u64(x.Amount))
	}
	return kind[api.Receipt]{
		name: "Receipt", domain: 8, base: api.Receipt{Serial: 7, Rides: 2, Amount: 500, Sig: sigOf(0x44)},
		encode: terms.EncodeReceipt, decode: terms.DecodeReceipt, say: terms.SayReceipt,
		body:   func(x api.Receipt) []byte { return slices.Concat(signed(x), x.Sig[:]) },
		signed: signed,
		parts:  func(x api.Receipt) []part { return []part{{slices.Concat(head(8), signed(x)), x.Sig}} },
		numbers: []number[api.Receipt]{
			{"Serial", 4, 1, upTo[api.Receipt](65535), func(x *api.Receipt, n int64) { x.Serial = int(n) }},
			{"Rides", 4, 0, upTo[api.Receipt](4096), func(x *api.Receipt, n int64) { x.Rides = int(n) }},
			{"Amount", 8, 0, upTo[api.Receipt](math.MaxInt64), func(x *api.Receipt, n int64) { x.Amount = n }},
		},
		blobs: []blob[api.Receipt]{{"Sig", false, func(x *api.Receipt) []byte { return x.Sig[:] }}},
	}
}

func orderKind() kind[api.Order] {
	return kind[api.Order]{
		name: "Order", domain: 9, base: api.Order{Rides: 3, Price: 250, Anchor: hashOf(0x11)},
		encode: terms.EncodeOrder, decode: terms.DecodeOrder,
		body:  func(x api.Order) []byte { return slices.Concat(u32(x.Rides), u64(x.Price), x.Anchor[:]) },
		parts: func(api.Order) []part { return nil },
		numbers: []number[api.Order]{
			{"Rides", 4, 1, upTo[api.Order](4096), func(x *api.Order, n int64) { x.Rides = int(n) }},
			{"Price", 8, 0, upTo[api.Order](1000000000), func(x *api.Order, n int64) { x.Price = n }},
		},
		blobs: []blob[api.Order]{{"Anchor", false, func(x *api.Order) []byte { return x.Anchor[:] }}},
	}
}

func headKind() kind[api.Head] {
	signed := func(x api.Head) []byte { return slices.Concat(u32(x.Size), x.Root[:]) }
	return kind[api.Head]{
		name: "Head", domain: 10, base: api.Head{Size: 5, Root: hashOf(0x33), Sig: sigOf(0x44)},
		encode: terms.EncodeHead, decode: terms.DecodeHead, say: terms.SayHead,
		body:    func(x api.Head) []byte { return slices.Concat(signed(x), x.Sig[:]) },
		signed:  signed,
		parts:   func(x api.Head) []part { return []part{{slices.Concat(head(10), signed(x)), x.Sig}} },
		numbers: []number[api.Head]{{"Size", 4, 0, upTo[api.Head](65536), func(x *api.Head, n int64) { x.Size = int(n) }}},
		blobs: []blob[api.Head]{
			{"Root", true, func(x *api.Head) []byte { return x.Root[:] }},
			{"Sig", false, func(x *api.Head) []byte { return x.Sig[:] }},
		},
	}
}

// kinds are all ten, entries once for each choice of their flags.
func kinds() []anyKind {
	return []anyKind{
		certKind(), ticketKind(),
		entryKind(false, false), entryKind(true, false), entryKind(false, true), entryKind(true, true),
		freezeKind(), ackKind(), revocationKind(), floorKind(), receiptKind(), orderKind(), headKind(),
	}
}

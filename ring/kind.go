package ring

import (
	"farebox/api"
	"farebox/sign"
	"farebox/terms"
)

// kind is what is done with the terms of a type: nothing else tells one kind from another here.
type kind[T any] struct {
	encode func(T) ([]byte, api.Errno)
	say    func(T) []byte
	sig    func(*T) *api.Sig
	key    func(api.Ring, T) (api.Key, bool) // false, if the ring has no key for the term
}

func certKind() kind[api.Cert] {
	return kind[api.Cert]{
		encode: terms.EncodeCert,
		say:    terms.SayCert,
		sig:    func(x *api.Cert) *api.Sig { return &x.Sig },
		key:    issuerKey[api.Cert],
	}
}

func freezeKind() kind[api.Freeze] {
	return kind[api.Freeze]{
		encode: terms.EncodeFreeze,
		say:    terms.SayFreeze,
		sig:    func(x *api.Freeze) *api.Sig { return &x.Sig },
		key:    issuerKey[api.Freeze],
	}
}

func ackKind() kind[api.Ack] {
	return kind[api.Ack]{
		encode: terms.EncodeAck,
		say:    terms.SayAck,
		sig:    func(x *api.Ack) *api.Sig { return &x.Sig },
		key:    gateKey,
	}
}

func revocationKind() kind[api.Revocation] {
	return kind[api.Revocation]{
		encode: terms.EncodeRevocation,
		say:    terms.SayRevocation,
		sig:    func(x *api.Revocation) *api.Sig { return &x.Sig },
		key:    issuerKey[api.Revocation],
	}
}

func floorKind() kind[api.Floor] {
	return kind[api.Floor]{
		encode: terms.EncodeFloor,
		say:    terms.SayFloor,
		sig:    func(x *api.Floor) *api.Sig { return &x.Sig },
		key:    issuerKey[api.Floor],
	}
}

func receiptKind() kind[api.Receipt] {
	return kind[api.Receipt]{
		encode: terms.EncodeReceipt,
		say:    terms.SayReceipt,
		sig:    func(x *api.Receipt) *api.Sig { return &x.Sig },
		key:    issuerKey[api.Receipt],
	}
}

func headKind() kind[api.Head] {
	return kind[api.Head]{
		encode: terms.EncodeHead,
		say:    terms.SayHead,
		sig:    func(x *api.Head) *api.Sig { return &x.Sig },
		key:    issuerKey[api.Head],
	}
}

// issuerKey is the key of every kind that the issuer signs.
func issuerKey[T any](r api.Ring, _ T) (api.Key, bool) { return r.Issuer, true }

// gateKey is the key of the gate that an acknowledgement names.
func gateKey(r api.Ring, x api.Ack) (api.Key, bool) {
	if x.Gate < 1 || x.Gate > len(r.Gates) {
		return api.Key{}, false
	}
	return r.Gates[x.Gate-1], true
}

// seal is a term with the signature of a seed in its place.
func (k kind[T]) seal(seed api.Hash, x T) T {
	*k.sig(&x) = sign.Sign(seed, k.say(x))
	return x
}

// check tells whether a term is in range and signed by the one who must have signed it.
func (k kind[T]) check(r api.Ring, x T) bool {
	// What is out of range says no bytes, and no bytes can be signed too.
	if _, err := k.encode(x); err != api.OK {
		return false
	}
	key, ok := k.key(r, x)
	return ok && sign.Verify(key, k.say(x), *k.sig(&x))
}

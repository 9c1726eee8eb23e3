package ring_test

import (
	"crypto/sha256"
	"math"
	"testing"

	"farebox/api"
	"farebox/ring"
)

// chainOf are the values of a carnet's chain, the anchor first, by Go's library.
func chainOf(rides int) []api.Hash {
	values := make([]api.Hash, rides+1)
	values[rides] = api.Hash{3: byte(rides), 8: 1}
	for i := rides; i > 0; i-- {
		values[i-1] = sha256.Sum256(values[i][:])
	}
	return values
}

// rightEntry is an entry of so many rides with no mark, as it must be.
func rightEntry(secret api.Hash, rides, index int) api.Entry {
	values := chainOf(rides)
	cert := ring.SealCert(seedOf(secret, 0), api.Cert{Serial: 7, Rides: rides, Price: 250, Anchor: values[0]})
	return api.Entry{Cert: cert, Index: index, Value: values[index]}
}

// marked is an entry with its marks signed by the issuer.
func marked(secret api.Hash, x api.Entry, frozen, revoked bool) api.Entry {
	if frozen {
		x.Frozen, x.Freeze = true, ring.SealFreeze(seedOf(secret, 0), api.Freeze{Cert: x.Cert}).Sig
	}
	if revoked {
		x.Revoked, x.Revoke = true, ring.SealRevocation(seedOf(secret, 0), api.Revocation{Cert: x.Cert}).Sig
	}
	return x
}

func wantEntry(t *testing.T, what string, r api.Ring, x api.Entry, want api.Errno) {
	t.Helper()
	if got := ring.CheckEntry(r, x); got != want {
		t.Errorf("CheckEntry, %s: %d, want %d, of %+v", what, got, want, x)
	}
}

// bools are both.
func bools() []bool { return []bool{false, true} }

// TestIndicesP116 asks the value of each ride at each index of some carnets.
func TestIndicesP116(t *testing.T) {
	secret := small().Secret
	keys := ringOf(secret, 0)
	for _, rides := range []int{1, 2, 5} {
		values := chainOf(rides)
		for index := range rides + 1 {
			for place, value := range values {
				x, want := rightEntry(secret, rides, index), api.OK
				if x.Value = value; place != index {
					want = api.ErrChain
				}
				wantEntry(t, "values and indices", keys, x, want)
			}
		}
	}
}

// TestLongChainP116 asks the greatest carnet: no index, the last, and those beside them.
func TestLongChainP116(t *testing.T) {
	secret := small().Secret
	keys := ringOf(secret, 1)
	x := rightEntry(secret, 4096, 4096)
	values := chainOf(4096)
	for _, index := range []int{0, 1, 2, 4095, 4096} {
		x.Index, x.Value = index, values[index]
		wantEntry(t, "a long chain", keys, x, api.OK)
		x.Value[31] ^= 1
		wantEntry(t, "a long chain, another value", keys, x, api.ErrChain)
		x.Value = values[(index+1)%4097]
		wantEntry(t, "a long chain, the value beside", keys, x, api.ErrChain)
	}
}

// TestValueBytesP116 asks values that differ in one byte.
func TestValueBytesP116(t *testing.T) {
	secret := small().Secret
	keys := ringOf(secret, 2)
	for index := range 3 {
		for i := range 32 {
			x := rightEntry(secret, 2, index)
			x.Value[i] ^= 0x80 >> (i % 8)
			wantEntry(t, "another value", keys, x, api.ErrChain)
		}
	}
}

// fault spoils an entry; of several the one that is looked at first is told.
type fault struct {
	name  string
	err   api.Errno
	spoil func(*api.Entry)
}

// rangeFaults bring an entry of three rides out of range.
func rangeFaults() []fault {
	var out []fault
	add := func(name string, spoil func(*api.Entry)) {
		out = append(out, fault{name, api.ErrArg, spoil})
	}
	add("nothing", func(*api.Entry) {})
	out[0].err = api.OK
	for _, n := range []int{-1, 4, 5, 1 << 32, 1<<32 + 1, math.MaxInt, math.MinInt} {
		add("Index", func(x *api.Entry) { x.Index = n })
	}
	for _, n := range []int{0, -1, 65536, 1<<32 + 7} {
		add("Serial", func(x *api.Entry) { x.Cert.Serial = n })
	}
	for _, n := range []int{0, -1, 4097, 1<<32 + 3} {
		add("Rides", func(x *api.Entry) { x.Cert.Rides = n })
	}
	for _, n := range []int64{-1, 1000000001, math.MinInt64} {
		add("Price", func(x *api.Entry) { x.Cert.Price = n })
	}
	add("a Freeze that is not told", func(x *api.Entry) { x.Frozen, x.Freeze = false, api.Sig{63: 1} })
	add("a Revoke that is not told", func(x *api.Entry) { x.Revoked, x.Revoke = false, api.Sig{0: 1} })
	return out
}

// signFaults make a signature one that does not verify.
func signFaults(secret api.Hash) []fault {
	gate := seedOf(secret, 1)
	return []fault{
		{"nothing", api.OK, func(*api.Entry) {}},
		{"the certificate's signature spoilt", api.ErrSign, func(x *api.Entry) { x.Cert.Sig[40] ^= 1 }},
		{"no certificate's signature", api.ErrSign, func(x *api.Entry) { x.Cert.Sig = api.Sig{} }},
		{"a certificate that a gate has sealed", api.ErrSign, func(x *api.Entry) { x.Cert = ring.SealCert(gate, x.Cert) }},
		{"another price", api.ErrSign, func(x *api.Entry) { x.Cert.Price++ }},
		{"another serial", api.ErrSign, func(x *api.Entry) { x.Cert.Serial++ }},
		{"a certificate that does not verify, with marks that do", api.ErrSign, func(x *api.Entry) {
			x.Cert.Sig[0] ^= 1
			*x = marked(secret, *x, true, true)
		}},
	}
}

// TestOrderP116 asks all entries with a fault of range, one of signatures and one of the value, or none of them, with all marks.
func TestOrderP116(t *testing.T) {
	secret := small().Secret
	keys := ringOf(secret, 3)
	for _, frozen := range bools() {
		for _, revoked := range bools() {
			for _, first := range rangeFaults() {
				for _, second := range signFaults(secret) {
					for index := range 3 {
						x, want := marked(secret, rightEntry(secret, 3, index+1), frozen, revoked), api.OK
						if index == 1 {
							x.Value[7] ^= 4
							want = api.ErrChain
						}
						if second.spoil(&x); second.err != api.OK {
							want = second.err
						}
						if first.spoil(&x); first.err != api.OK {
							want = first.err
						}
						wantEntry(t, first.name+", "+second.name, keys, x, want)
					}
				}
			}
		}
	}
}

// TestMarksP116 asks each mark with a signature that verifies, and with those that do not.
func TestMarksP116(t *testing.T) {
	secret := small().Secret
	issuer, gate := seedOf(secret, 0), seedOf(secret, 1)
	keys := ringOf(secret, 3)
	x := rightEntry(secret, 3, 2)
	other := x.Cert
	other.Serial = 8
	freeze := ring.SealFreeze(issuer, api.Freeze{Cert: x.Cert}).Sig
	revoke := ring.SealRevocation(issuer, api.Revocation{Cert: x.Cert}).Sig
	spoiltFreeze, spoiltRevoke := freeze, revoke
	spoiltFreeze[63] ^= 1
	spoiltRevoke[0] ^= 1
	freezes := []api.Sig{freeze, spoiltFreeze, {}, revoke, x.Cert.Sig, ring.SealFreeze(gate, api.Freeze{Cert: x.Cert}).Sig, ring.SealFreeze(issuer, api.Freeze{Cert: other}).Sig}
	revokes := []api.Sig{revoke, spoiltRevoke, {}, freeze, x.Cert.Sig, ring.SealRevocation(gate, api.Revocation{Cert: x.Cert}).Sig, ring.SealRevocation(issuer, api.Revocation{Cert: other}).Sig}
	want := func(right bool) api.Errno {
		if right {
			return api.OK
		}
		return api.ErrSign
	}
	for i, f := range freezes {
		y := x
		y.Frozen, y.Freeze = true, f
		wantEntry(t, "frozen", keys, y, want(i == 0))
		for j, v := range revokes {
			y.Revoked, y.Revoke = true, v
			wantEntry(t, "frozen and revoked", keys, y, want(i == 0 && j == 0))
			z := x
			z.Revoked, z.Revoke = true, v
			wantEntry(t, "revoked", keys, z, want(j == 0))
		}
	}
}

// TestMarkOnOtherCertificateP116 asks marks that were signed for the same carnet under another signature of its certificate: a mark is on the certificate as it stands, its signature too.
func TestMarkOnOtherCertificateP116(t *testing.T) {
	secret := small().Secret
	keys := ringOf(secret, 3)
	x := rightEntry(secret, 3, 1)
	y := x
	y.Cert.Sig = api.Sig{}
	for _, row := range [][2]bool{{true, false}, {false, true}, {true, true}} {
		z := marked(secret, y, row[0], row[1])
		z.Cert = x.Cert
		wantEntry(t, "marks on another certificate", keys, z, api.ErrSign)
		wantEntry(t, "marks on this certificate", keys, marked(secret, x, row[0], row[1]), api.OK)
	}
}

// TestRingOfEntryP116 asks an entry under rings: the issuer's key is all that is looked at.
func TestRingOfEntryP116(t *testing.T) {
	secret := small().Secret
	x := marked(secret, rightEntry(secret, 3, 3), true, true)
	for _, gates := range []int{0, 1, 16, 20} {
		wantEntry(t, "any gates", ringOf(secret, gates), x, api.OK)
	}
	wantEntry(t, "another fleet", ringOf(api.Hash{}, 3), x, api.ErrSign)
	wantEntry(t, "no keys", api.Ring{}, x, api.ErrSign)
	turned := ringOf(secret, 3)
	turned.Issuer, turned.Gates[0] = turned.Gates[0], turned.Issuer
	wantEntry(t, "the issuer's key as a gate's", turned, x, api.ErrSign)
	x.Index = 4
	wantEntry(t, "no keys, out of range", api.Ring{}, x, api.ErrArg)
}

// TestNothingP116 asks the entry of zeros.
func TestNothingP116(t *testing.T) {
	wantEntry(t, "nothing", ringOf(api.Hash{}, 1), api.Entry{}, api.ErrArg)
	wantEntry(t, "nothing under nothing", api.Ring{}, api.Entry{}, api.ErrArg)
}

// TestOpenRingP116 asks under a key that takes openSig for everything: what is out of range, and a value that leads elsewhere, are refused still.
func TestOpenRingP116(t *testing.T) {
	open := api.Ring{Issuer: openKey()}
	x := rightEntry(small().Secret, 3, 2)
	x.Cert.Sig = openSig()
	x.Frozen, x.Freeze, x.Revoked, x.Revoke = true, openSig(), true, openSig()
	wantEntry(t, "an open key", open, x, api.OK)
	for _, f := range rangeFaults() {
		y := x
		f.spoil(&y)
		wantEntry(t, "an open key, "+f.name, open, y, f.err)
	}
	x.Value[0] ^= 1
	wantEntry(t, "an open key, another value", open, x, api.ErrChain)
}

// TestMostRidesP116 asks that an index is held against the rides of its own certificate, not against the most that there may be.
func TestMostRidesP116(t *testing.T) {
	secret := small().Secret
	values := chainOf(5)
	for rides := 1; rides <= 5; rides++ {
		cert := ring.SealCert(seedOf(secret, 0), api.Cert{Serial: 1, Rides: rides, Anchor: values[0]})
		for index, value := range values {
			want := api.OK
			if index > rides {
				want = api.ErrArg
			}
			wantEntry(t, "rides", ringOf(secret, 1), api.Entry{Cert: cert, Index: index, Value: value}, want)
		}
	}
}

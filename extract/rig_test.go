package extract_test

import (
	"bytes"
	"fmt"
	"math/rand/v2"
	"slices"
	"testing"

	"farebox/api"
	"farebox/chain"
	"farebox/curve"
	"farebox/extract"
	"farebox/ring"
	"farebox/scalar"
	"farebox/sha512"
	"farebox/terms"
)

// config is that of most tests: the gates 1 to 3, the wallets' nodes 4 and 5.
var config = api.Config{Gates: 3, Wallets: 2, Rows: 6, Flash: 20000, Serials: 6, Secret: api.Hash{27, 1}}

// stranger is a seed that is no node's.
var stranger = api.Hash{0xE7}

func chance(seed uint64) *rand.Rand { return rand.New(rand.NewPCG(27, seed)) }

func keysOf(c api.Config) api.Ring {
	r, err := ring.Make(c)
	if err != api.OK {
		panic("a configuration that may not be")
	}
	return r
}

func keys() api.Ring { return keysOf(config) }

// seed is a node's secret.
func seed(node int) api.Hash {
	s, there := ring.Seed(config, node)
	if !there {
		panic("no node of that number")
	}
	return s
}

// body is a term's message.
func body[T any](encode func(T) ([]byte, api.Errno), x T) []byte {
	b, err := encode(x)
	if err != api.OK {
		panic(fmt.Sprintf("%+v is not in range", x))
	}
	return b
}

func out(node int, body []byte) api.Event {
	return api.Event{Kind: api.EventOut, Node: node, Body: body}
}

func inject(body []byte) api.Event {
	return api.Event{Kind: api.EventInject, Node: 1, Body: body}
}

// line is a chain of so many rides.
type line struct {
	seed  api.Hash
	rides int
}

// lines are what most tests have: long ones, and one of a single ride.
var (
	first  = line{api.Hash{1}, 6}
	second = line{api.Hash{2}, 5}
	single = line{api.Hash{3}, 1}
)

func (x line) value(index int) api.Hash {
	v, there := chain.Value(x.seed, x.rides, index)
	if !there {
		panic("no index of this chain")
	}
	return v
}

func (x line) order() []byte { return orderOf(x.value(0), x.rides) }

// cert is the issuer's, under the chain's first byte as the serial.
func (x line) cert() api.Cert { return certOf(int(x.seed[0]), x.rides, x.value(0)) }

func (x line) ticket(index int) []byte { return ticketOf(x.cert(), index, x.value(index)) }

func (x line) entry(index int) []byte { return entryOf(x.cert(), index, x.value(index)) }

// ack is a gate's, sealed with its key.
func (x line) ack(gate, index int) []byte {
	return ackOf(seed(gate), gate, int(x.seed[0]), index, x.value(index))
}

func orderOf(anchor api.Hash, rides int) []byte {
	return body(terms.EncodeOrder, api.Order{Rides: rides, Price: 10, Anchor: anchor})
}

func certOf(serial, rides int, anchor api.Hash) api.Cert {
	return ring.SealCert(seed(0), api.Cert{Serial: serial, Rides: rides, Price: 10, Anchor: anchor})
}

// bare is a certificate of zeros but its rides and its anchor: what is asked of chains asks for no signature.
func bare(anchor api.Hash, rides int) api.Cert {
	return api.Cert{Serial: 9, Rides: rides, Anchor: anchor}
}

func ticketOf(c api.Cert, index int, v api.Hash) []byte {
	return body(terms.EncodeTicket, api.Ticket{Cert: c, Index: index, Value: v})
}

func entryOf(c api.Cert, index int, v api.Hash) []byte {
	return body(terms.EncodeEntry, api.Entry{Cert: c, Index: index, Value: v})
}

// flagged is an entry with the signatures of a freeze and a revocation of that issuer.
func flagged(issuer api.Hash, c api.Cert, index int, v api.Hash, frozen, revoked bool) []byte {
	x := api.Entry{Cert: c, Index: index, Value: v, Frozen: frozen, Revoked: revoked}
	if frozen {
		x.Freeze = ring.SealFreeze(issuer, api.Freeze{Cert: c}).Sig
	}
	if revoked {
		x.Revoke = ring.SealRevocation(issuer, api.Revocation{Cert: c}).Sig
	}
	return body(terms.EncodeEntry, x)
}

func ackOf(seed api.Hash, gate, serial, index int, v api.Hash) []byte {
	return body(terms.EncodeAck, ring.SealAck(seed, api.Ack{Serial: serial, Gate: gate, Index: index, Value: v}))
}

// bareAck is one that nobody has signed.
func bareAck(v api.Hash) []byte {
	return body(terms.EncodeAck, api.Ack{Serial: 9, Gate: 1, Value: v})
}

func freezeOf(issuer api.Hash, c api.Cert) []byte {
	return body(terms.EncodeFreeze, ring.SealFreeze(issuer, api.Freeze{Cert: c}))
}

func revocationOf(issuer api.Hash, c api.Cert) []byte {
	return body(terms.EncodeRevocation, ring.SealRevocation(issuer, api.Revocation{Cert: c}))
}

func floorOf(issuer api.Hash, n int) []byte {
	return body(terms.EncodeFloor, ring.SealFloor(issuer, api.Floor{Floor: n}))
}

func receiptOf(issuer api.Hash, serial int) []byte {
	return body(terms.EncodeReceipt, ring.SealReceipt(issuer, api.Receipt{Serial: serial, Rides: 1, Amount: 5}))
}

func headOf(issuer api.Hash, size int) []byte {
	return body(terms.EncodeHead, ring.SealHead(issuer, api.Head{Size: size, Root: api.Hash{4}}))
}

// otherSig is another signature than sign.Sign's that verifies: its secret number is another one.
func otherSig(seed api.Hash, say []byte) api.Sig {
	hash := sha512.Sum(seed[:])
	var half [32]byte
	copy(half[:], hash[:32])
	multiplier, secret := scalar.Clamp(half), api.Scalar{7}
	point, key := curve.Encode(curve.MulBase(secret)), curve.Encode(curve.MulBase(multiplier))
	challenge := scalar.Reduce(sha512.Sum(slices.Concat(point[:], key[:], say)))
	n := scalar.MulAdd(challenge, multiplier, secret)
	var s api.Sig
	copy(s[:32], point[:])
	copy(s[32:], n[:])
	return s
}

// junk are bodies that terms.Said refuses: no message, none that is known, one that is too long, cut off, with something behind it, out of range.
func junk() [][]byte {
	ticket := first.ticket(3)
	zero, beyond := bytes.Clone(ticket), bytes.Clone(ticket)
	zero[119], beyond[119] = 0, byte(first.rides+1)
	return [][]byte{
		nil, {}, {0}, []byte("no message"), {'F', 'B', 1, 0}, {'F', 'B', 1, 11}, {'F', 'B', 2, 2},
		bytes.Repeat([]byte{7}, api.MaxMessage+1), append(bytes.Clone(ticket), make([]byte, api.MaxMessage)...),
		ticket[:len(ticket)-1], append(bytes.Clone(ticket), 0), first.order()[:47], append(first.order(), 1), zero, beyond,
	}
}

// call is one of the four that look for a break.
type call = func(api.Ring, []api.Event) (api.Break, bool)

func sameBreak(a, b api.Break) bool {
	return a.Kind == b.Kind && a.Key == b.Key && bytes.Equal(a.Say, b.Say) && a.Sig == b.Sig && a.Value == b.Value && a.Steps == b.Steps
}

// isZero tells whether a break is the zero one, without a list.
func isZero(b api.Break) bool { return b.Say == nil && sameBreak(b, api.Break{}) }

// wantNone asks that a call finds nothing.
func wantNone(t *testing.T, what string, find call, r api.Ring, trace []api.Event) {
	t.Helper()
	if b, found := find(r, trace); found || !isZero(b) {
		t.Errorf("%s: found %v, %s", what, found, tell(b))
	}
}

// wantBreak asks that a call finds this break, and that it is genuine.
func wantBreak(t *testing.T, what string, find call, r api.Ring, trace []api.Event, want api.Break) {
	t.Helper()
	b, found := find(r, trace)
	if !found || !sameBreak(b, want) {
		t.Errorf("%s: found %v, %s, want %s", what, found, tell(b), tell(want))
	}
	wantGenuine(t, what, r, trace, want, true)
}

func wantGenuine(t *testing.T, what string, r api.Ring, trace []api.Event, b api.Break, want bool) {
	t.Helper()
	if got := extract.Genuine(r, trace, b); got != want {
		t.Errorf("P27.6: %s: Genuine is %v of %s", what, got, tell(b))
	}
}

// tell is a break in short.
func tell(b api.Break) string {
	return fmt.Sprintf("kind %d, key %x.., say %.20x.. (%d), sig %x.., value %x.., steps %d", b.Kind, b.Key[:3], b.Say, len(b.Say), b.Sig[:3], b.Value[:3], b.Steps)
}

// forgery is the break of a body's pair of that place, under a node's key.
func forgery(t *testing.T, node int, body []byte, place int) api.Break {
	t.Helper()
	says, sigs, err := terms.Said(body)
	if err != api.OK || place >= len(says) {
		t.Fatalf("no pair %d in %x", place, body)
	}
	key := keys().Issuer
	if node > 0 {
		key = keys().Gates[node-1]
	}
	return api.Break{Kind: api.BreakForgery, Key: key, Say: says[place], Sig: sigs[place]}
}

func preimage(v api.Hash, steps int) api.Break {
	return api.Break{Kind: api.BreakPreimage, Value: v, Steps: steps}
}

func stray(v api.Hash, index int) api.Break {
	return api.Break{Kind: api.BreakStray, Value: v, Steps: index}
}

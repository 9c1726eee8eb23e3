package extract_test

import (
	"bytes"
	"fmt"
	"testing"

	"farebox/api"
	"farebox/extract"
	"farebox/ring"
	"farebox/sign"
	"farebox/terms"
)

// spoken are bodies of every kind that is signed, with the number of their pairs, by these seeds.
func spoken(issuer, gate api.Hash) map[string][]byte {
	c := ring.SealCert(issuer, api.Cert{Serial: 3, Rides: 6, Price: 5, Anchor: first.value(0)})
	v := first.value(2)
	return map[string][]byte{
		"cert":         body(terms.EncodeCert, c),
		"ticket":       ticketOf(c, 2, v),
		"entry":        entryOf(c, 2, v),
		"frozen":       flagged(issuer, c, 2, v, true, false),
		"revoked":      flagged(issuer, c, 2, v, false, true),
		"both":         flagged(issuer, c, 2, v, true, true),
		"freeze":       freezeOf(issuer, c),
		"ack":          ackOf(gate, 2, 3, 2, v),
		"revocation":   revocationOf(issuer, c),
		"floor":        floorOf(issuer, 7),
		"receipt":      receiptOf(issuer, 3),
		"head":         headOf(issuer, 4),
		"another cert": body(terms.EncodeCert, ring.SealCert(issuer, api.Cert{Serial: 3, Rides: 6, Price: 6, Anchor: first.value(0)})),
	}
}

// pairs is how many pairs a body says.
func pairs(b []byte) int {
	says, _, _ := terms.Said(b)
	return len(says)
}

func ownerOf(b []byte) int {
	x, _ := terms.DecodeAck(b)
	return x.Gate
}

// TestEveryKindP27_2: a body of each kind that nobody has told, with the owner's signatures: each of its pairs is a forgery, the first one is found; where the owner has told the first ones, the next.
func TestEveryKindP27_2(t *testing.T) {
	good := spoken(seed(0), seed(2))
	for what, b := range good {
		if pairs(b) == 0 {
			t.Fatalf("%s says nothing", what)
		}
		node := ownerOf(b)
		trace := []api.Event{inject(b)}
		wantBreak(t, "P27.2: "+what, extract.Forgery, keys(), trace, forgery(t, node, b, 0))
		for i := range pairs(b) {
			wantGenuine(t, what, keys(), trace, forgery(t, node, b, i), true)
		}
		wantNone(t, "P27.2: told: "+what, extract.Forgery, keys(), []api.Event{out(node, b), inject(b)})
	}
	cert, both := good["cert"], good["both"]
	told := []api.Event{out(0, cert)}
	wantBreak(t, "P27.2: the freeze", extract.Forgery, keys(), append(told, inject(both)), forgery(t, 0, both, 1))
	wantBreak(t, "P27.2: the revocation", extract.Forgery, keys(), append(told, out(0, good["freeze"]), inject(both)), forgery(t, 0, both, 2))
	wantBreak(t, "P27.2: the freeze of a revoked one", extract.Forgery, keys(), []api.Event{out(0, good["revocation"]), inject(both)}, forgery(t, 0, both, 1))
	// What one body says the next may say in another form.
	wantNone(t, "P27.2: all told, in parts", extract.Forgery, keys(), append(told, out(0, good["freeze"]), out(0, good["revocation"]), inject(both), inject(good["ticket"]), inject(good["frozen"])))
	wantNone(t, "P27.2: all told, in one", extract.Forgery, keys(), []api.Event{out(0, both), inject(cert), inject(good["freeze"]), inject(good["revoked"]), inject(good["entry"])})
	wantBreak(t, "P27.2: another certificate", extract.Forgery, keys(), append(told, inject(good["another cert"])), forgery(t, 0, good["another cert"], 0))
	wantNone(t, "P27.2: an order says nothing", extract.Forgery, keys(), []api.Event{inject(first.order())})
}

// TestWhoHasToldP27_2: the pair must be told by its owner, ahead of the body; by another node, behind it or in the body itself is not enough.
func TestWhoHasToldP27_2(t *testing.T) {
	for what, b := range spoken(seed(0), seed(2)) {
		node := ownerOf(b)
		want := forgery(t, node, b, 0)
		for other := -2; other < 9; other++ {
			trace := []api.Event{out(other, b), inject(b)}
			if other == node {
				wantNone(t, fmt.Sprintf("P27.2: %s, told by node %d", what, other), extract.Forgery, keys(), trace)
			} else {
				wantBreak(t, fmt.Sprintf("P27.2: %s, told by node %d", what, other), extract.Forgery, keys(), trace, want)
			}
		}
		wantBreak(t, "P27.2: told behind: "+what, extract.Forgery, keys(), []api.Event{inject(b), out(node, b)}, want)
		wantBreak(t, "P27.2: told between: "+what, extract.Forgery, keys(), []api.Event{inject(b), out(node, b), inject(b)}, want)
		wantBreak(t, "P27.2: shown twice: "+what, extract.Forgery, keys(), []api.Event{inject(b), inject(b)}, want)
		wantNone(t, "P27.2: told twice: "+what, extract.Forgery, keys(), []api.Event{out(node, b), out(node, b), inject(b), inject(b)})
		for _, kind := range []int{0, 3, 4, 5, 6, 7, 8, 9, 10, 11, -1} {
			other := api.Event{Kind: kind, Node: node, Body: b}
			wantBreak(t, "P27.2: of a kind that tells nothing: "+what, extract.Forgery, keys(), []api.Event{other, inject(b)}, want)
			wantNone(t, "P27.2: of a kind that shows nothing: "+what, extract.Forgery, keys(), []api.Event{other})
		}
	}
}

// TestSignaturesP27_2: a signature that does not verify under its owner's key is none, whoever's it is.
func TestSignaturesP27_2(t *testing.T) {
	for _, by := range [][2]api.Hash{{stranger, stranger}, {seed(1), seed(1)}, {seed(2), seed(0)}, {seed(3), seed(3)}} {
		for what, b := range spoken(by[0], by[1]) {
			wantNone(t, "P27.2: signed by another: "+what, extract.Forgery, keys(), []api.Event{inject(b)})
			wantNone(t, "P27.2: signed by another, told by him: "+what, extract.Forgery, keys(), []api.Event{out(5, b), inject(b), inject(b)})
		}
	}
	for what, b := range spoken(seed(0), seed(2)) {
		says, sigs, _ := terms.Said(b)
		for i := range says {
			for _, part := range [][]byte{sigs[i][:], says[i][4:]} {
				bad := bytes.Clone(b)
				bad[bytes.Index(bad, part)+len(part)-1] ^= 4
				trace := []api.Event{inject(bad)}
				want := newModel(keys(), trace).forgeries(0)
				if len(want) >= len(says) {
					t.Fatalf("a bit of %s is turned, and all verifies", what)
				}
				if len(want) == 0 {
					wantNone(t, "P27.2: a bit is turned: "+what, extract.Forgery, keys(), trace)
				} else {
					wantBreak(t, "P27.2: a bit is turned: "+what, extract.Forgery, keys(), trace, want[0])
				}
			}
		}
	}
	// That another signature of the same say was shown, or the same one of another say, and did not verify, hides none that does.
	bad, good := floorOf(stranger, 5), floorOf(seed(0), 5)
	_, sigs, _ := terms.Said(good)
	moved := body(terms.EncodeFloor, api.Floor{Floor: 6, Sig: sigs[0]})
	wantBreak(t, "P27.2: behind a signature of something else", extract.Forgery, keys(), []api.Event{inject(moved), inject(good)}, forgery(t, 0, good, 0))
	wantNone(t, "P27.2: a signature of something else, told", extract.Forgery, keys(), []api.Event{out(0, good), inject(moved), inject(good), inject(moved)})
	wantBreak(t, "P27.2: behind one that does not verify", extract.Forgery, keys(), []api.Event{inject(bad), inject(bad), inject(good), inject(bad)}, forgery(t, 0, good, 0))
	wantNone(t, "P27.2: twice one that does not verify", extract.Forgery, keys(), []api.Event{inject(bad), out(0, bad), inject(bad), out(0, good), inject(good)})
	// The first pair does not verify, the second does.
	c := first.cert()
	c.Sig[5] ^= 1
	b := freezeOf(seed(0), c)
	wantBreak(t, "P27.2: a freeze of a bad certificate", extract.Forgery, keys(), []api.Event{inject(b)}, forgery(t, 0, b, 1))
	wantNone(t, "P27.2: a bad certificate", extract.Forgery, keys(), []api.Event{inject(ticketOf(c, 2, first.value(2)))})
}

// TestOtherSignatureP27_2: that the owner has said the same with another signature is not enough: it is the pair that he must have said.
func TestOtherSignatureP27_2(t *testing.T) {
	x := api.Floor{Floor: 4}
	told := floorOf(seed(0), 4)
	x.Sig = otherSig(seed(0), terms.SayFloor(x))
	b := body(terms.EncodeFloor, x)
	if bytes.Equal(b, told) || !sign.Verify(keys().Issuer, terms.SayFloor(x), x.Sig) {
		t.Fatal("no second signature")
	}
	wantBreak(t, "P27.2: another signature", extract.Forgery, keys(), []api.Event{out(0, told), inject(b)}, forgery(t, 0, b, 0))
	wantNone(t, "P27.2: both are told", extract.Forgery, keys(), []api.Event{out(0, told), out(0, b), inject(b), inject(told)})
	wantGenuine(t, "the one that was told", keys(), []api.Event{out(0, told), inject(b), inject(told)}, forgery(t, 0, told, 0), false)
}

// TestGatesP27_2: an acknowledgement's owner is the gate that it names; of a gate that is none of the ring's there is none.
func TestGatesP27_2(t *testing.T) {
	r := keys()
	for gate := 1; gate <= api.MaxGates; gate++ {
		for by := range 4 {
			b := ackOf(seed(by), gate, 2, 1, second.value(1))
			what := fmt.Sprintf("P27.2: an acknowledgement of gate %d by node %d", gate, by)
			if by != gate || by == 0 {
				wantNone(t, what, extract.Forgery, r, []api.Event{inject(b)})
				wantNone(t, what, extract.Forgery, r, []api.Event{out(by, b), inject(b)})
				continue
			}
			want := forgery(t, gate, b, 0)
			wantBreak(t, what, extract.Forgery, r, []api.Event{inject(b)}, want)
			wantNone(t, what+", told", extract.Forgery, r, []api.Event{out(gate, b), inject(b)})
			// Rings that lack the gate.
			for few := range gate {
				short := api.Ring{Issuer: r.Issuer, Gates: r.Gates[:few]}
				wantNone(t, what+", a short ring", extract.Forgery, short, []api.Event{inject(b)})
				wantGenuine(t, "a short ring", short, []api.Event{inject(b)}, want, false)
			}
		}
	}
	for _, none := range []api.Ring{{}, {Issuer: r.Issuer}, {Issuer: r.Issuer, Gates: []api.Key{}}, {Gates: []api.Key{{}}}} {
		ack := second.ack(1, 2)
		wantNone(t, "P27.2: a ring without the gate's key", extract.Forgery, none, []api.Event{inject(ack), out(1, ack), inject(ack)})
		floor := floorOf(seed(0), 2)
		if none.Issuer == r.Issuer {
			wantBreak(t, "P27.2: a ring without gates", extract.Forgery, none, []api.Event{inject(ack), inject(floor)}, forgery(t, 0, floor, 0))
		} else {
			wantNone(t, "P27.2: another issuer", extract.Forgery, none, []api.Event{inject(floor)})
		}
	}
	// The issuer's key in a gate's place, and a ring of more gates than there may be.
	swapped := api.Ring{Issuer: r.Gates[0], Gates: []api.Key{r.Issuer}}
	ack := ackOf(seed(0), 1, 2, 1, second.value(1))
	want := forgery(t, 0, ack, 0)
	wantBreak(t, "P27.2: the issuer's key as gate 1's", extract.Forgery, swapped, []api.Event{out(0, ack), inject(ack)}, want)
	wantNone(t, "P27.2: the issuer's key as gate 1's, told", extract.Forgery, swapped, []api.Event{out(1, ack), inject(ack)})
	many := api.Ring{Issuer: r.Issuer, Gates: make([]api.Key, 40)}
	many.Gates[15] = r.Gates[0]
	last := ackOf(seed(1), 16, 2, 1, second.value(1))
	wantBreak(t, "P27.2: gate 16 of 40", extract.Forgery, many, []api.Event{inject(last)}, forgery(t, 1, last, 0))
}

// TestOrderP27_2: the first one by the order of the shown bodies, and in a body by that of what it says.
func TestOrderP27_2(t *testing.T) {
	floor, ack := floorOf(seed(0), 2), second.ack(2, 3)
	frozen := flagged(seed(0), first.cert(), 1, first.value(1), true, true)
	for _, x := range []struct {
		bodies [][]byte
		owner  int
		place  int
	}{
		{[][]byte{floor, ack, frozen}, 0, 0},
		{[][]byte{ack, floor, frozen}, 2, 0},
		{[][]byte{frozen, floor, ack}, 0, 0},
		{[][]byte{ack, ack, floor}, 2, 0},
	} {
		trace := []api.Event{inject([]byte("junk")), out(1, floor)}
		for _, b := range x.bodies {
			trace = append(trace, inject(b), out(4, first.order()))
		}
		wantBreak(t, "P27.2: the order", extract.Forgery, keys(), trace, forgery(t, x.owner, x.bodies[0], x.place))
		for _, b := range x.bodies {
			for i := range pairs(b) {
				wantGenuine(t, "not the first", keys(), trace, forgery(t, ownerOf(b), b, i), true)
			}
		}
	}
	told := out(0, body(terms.EncodeCert, first.cert()))
	wantBreak(t, "P27.2: the second pair", extract.Forgery, keys(), []api.Event{told, inject(frozen), inject(floor)}, forgery(t, 0, frozen, 1))
}

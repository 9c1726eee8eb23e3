package extract_test

import (
	"fmt"
	"slices"
	"strings"
	"testing"

	"farebox/api"
	"farebox/ring"
)

// wantFaults asks which of P26.16 to P26.19 do not hold any more, and what is found: where none is told nothing is, else a break of that kind.
func (s *stage) wantFaults(what string, kind int, promises ...string) {
	s.t.Helper()
	var got []string
	for _, x := range s.faults {
		promise, _, _ := strings.Cut(x, ":")
		if !slices.Contains(got, promise) {
			got = append(got, promise)
		}
	}
	slices.Sort(got)
	if !slices.Equal(got, promises) {
		s.t.Errorf("%s: the faults are %q, want %q", what, s.faults, promises)
	}
	if kind == 0 {
		s.wantNothing(what)
		return
	}
	b, found := calls()["P27.5"](keysOf(s.c), s.f.Trace())
	if !found || b.Kind != kind {
		s.t.Errorf("P27.7: %s: found %v, %s", what, found, tell(b))
	}
	wantGenuine(s.t, what, keysOf(s.c), s.f.Trace(), b, true)
}

// key is the seed of a node of the stage, which only who has broken in knows.
func (s *stage) key(node int) api.Hash {
	s.t.Helper()
	seed, there := ring.Seed(s.c, node)
	if !there {
		s.t.Fatal("no node", node)
	}
	return seed
}

// TestForgedCertificateP27_7: an accept of what the issuer has not told of (P26.16) shows his forged signature.
func TestForgedCertificateP27_7(t *testing.T) {
	s := sold(t)
	cert := ring.SealCert(s.key(0), api.Cert{Serial: 2, Rides: 6, Anchor: first.value(0)})
	s.injected(1, ticketOf(cert, 4, first.value(4)), "ok 2 4").wantFaults("a certificate by the issuer's seed", api.BreakForgery, "P26.16")
	// One that is signed by any other is refused, and breaks nothing.
	for _, by := range []api.Hash{s.key(1), s.key(2), stranger} {
		s = sold(t)
		cert = ring.SealCert(by, cert)
		s.injected(1, ticketOf(cert, 4, first.value(4)), "error 110").wantFaults("a certificate by another seed", 0)
	}
}

// TestForgedAckP27_7: a ride that was accepted is paid back (P26.17) by a forged acknowledgement that there was none.
func TestForgedAckP27_7(t *testing.T) {
	s := sold(t).all("ride 1 1 1 -> ok 1 1 3", "deliver 3 -> ok 1 1", "freeze 1 -> ok 1 4")
	s.injected(0, ackOf(s.key(1), 1, 1, 0, s.value(0)), "ok 1 0 0").wantFaults("an acknowledgement by the gate's seed", api.BreakForgery)
	s.all("pay 1 -> ok 3 300 5").wantFaults("a payout of all rides", api.BreakForgery, "P26.17")
	// Ahead of the freeze's delivery the gate would accept more: behind the payout too.
	s = sold(t).all("freeze 1 -> ok 1 3")
	s.injected(0, ackOf(s.key(1), 1, 1, 0, s.value(0)), "ok 1 0 0")
	s.all("pay 1 -> ok 3 300 4").wantFaults("a payout of all rides", api.BreakForgery)
	s.all("ride 1 1 1 -> ok 1 1 5", "deliver 5 -> ok 1 1").wantFaults("a ride behind the payout", api.BreakForgery, "P26.17")
	// The gate's own acknowledgement, brought by the enemy, is paid as it should be.
	s = sold(t).all("ride 1 1 1 -> ok 1 1 3", "deliver 3 -> ok 1 1", "freeze 1 -> ok 1 4", "deliver 4 -> ok 1 1 5")
	s.injected(0, s.f.Bag()[0].Body, "ok 1 1 0").injected(0, ackOf(s.key(0), 1, 1, 0, s.value(0)), "error 110")
	s.all("pay 1 -> ok 2 200 6").wantFaults("the gate's own acknowledgement", 0)
}

// TestPreimageP27_7: an accept and a store of what was not revealed (P26.19), and a payout that leaves it, show a value that nobody could know.
func TestPreimageP27_7(t *testing.T) {
	for index := 1; index <= 3; index++ {
		s := sold(t)
		s.injected(1, s.ticket(index), fmt.Sprint("ok 1 ", index)).wantFaults("a ticket by the wallet's seed", api.BreakPreimage, "P26.19")
		s = sold(t)
		s.injected(1, entryOf(s.cert(), index, s.value(index)), fmt.Sprint("ok 1 ", index, " 1")).wantFaults("an entry by the wallet's seed", api.BreakPreimage, "P26.19")
		s.all("freeze 1 -> ok 1 3", fmt.Sprintf("deliver 3 -> ok 1 %d 4", index), fmt.Sprintf("deliver 4 -> ok 1 %d 0", index))
		s.all(fmt.Sprintf("pay 1 -> ok %d %d 5", 3-index, 100*(3-index))).wantFaults("its payout", api.BreakPreimage, "P26.19")
	}
	s := sold(t).all("freeze 1 -> ok 1 3")
	s.injected(0, ackOf(s.key(1), 1, 1, 2, s.value(2)), "ok 1 2 0").all("pay 1 -> ok 1 100 4")
	s.wantFaults("a payout that leaves what was not revealed", api.BreakForgery, "P26.19")
}

// TestNothingBrokenP27_7: an enemy who uses what he has seen, and no secret, breaks nothing, and nothing is found.
func TestNothingBrokenP27_7(t *testing.T) {
	// A wallet's order, seen and brought ahead of it; twice; with another price.
	s := sold(t).all("buy 1 2 5 -> ok 2 3")
	order := s.f.Bag()[0].Body
	s.injected(0, order, "ok 2 0").injected(0, order, "ok 2 0").all("deliver 3 -> ok 2 4", "deliver 4 -> ok 2 2", "ride 1 2 1 -> ok 2 1 5")
	ticket := s.f.Bag()[0].Body
	s.injected(1, ticket, "ok 2 1").injected(1, ticket, "error 190").injected(0, ticket, "error 91").wantFaults("what was told, brought by the enemy", 0)
	// The enemy's own carnet, its rides in any order, its refund.
	s.injected(0, first.order(), "ok 3 0")
	cert := ring.SealCert(s.key(0), api.Cert{Serial: 3, Rides: 6, Price: 10, Anchor: first.value(0)}) // just what the issuer has told
	s.injected(1, ticketOf(cert, 3, first.value(3)), "ok 3 3").injected(1, ticketOf(cert, 2, first.value(2)), "error 190")
	s.injected(1, entryOf(cert, 5, first.value(5)), "ok 3 5 1").wantFaults("the enemy's own rides", 0)
	s.all("freeze 3 -> ok 3 6", "deliver 6 -> ok 3 5 7", "deliver 7 -> ok 3 5 0", "pay 3 -> ok 1 10").wantFaults("the enemy's refund", 0)
	// A value that is told as another index, or of another carnet.
	w := s.cert()
	s.injected(1, ticketOf(w, 1, first.value(1)), "error 150").injected(1, ticketOf(w, 2, w.Anchor), "error 150").injected(1, entryOf(w, 0, w.Anchor), "ok 1 0 1").wantFaults("values of others", 0)
}

// TestShownAheadP27_7: an anchor that somebody has shown ahead of the wallet's order is not the wallet's alone: what it leads from may be shown until the order is told, and from then on no more.
func TestShownAheadP27_7(t *testing.T) {
	s := sold(t)
	// The wallet's second carnet, by its seed.
	rides := line{s.secret(2), 3}
	order := orderOf(rides.value(0), 3)
	s.injected(0, order, "ok 2 0")
	cert := ring.SealCert(s.key(0), api.Cert{Serial: 2, Rides: 3, Price: 10, Anchor: rides.value(0)})
	s.injected(1, ticketOf(cert, 2, rides.value(2)), "ok 2 2").wantFaults("a carnet that nobody has told", 0)
	s.all("buy 1 3 10 -> ok 2 3").wantFaults("its order is told", 0)
	s.injected(1, ticketOf(cert, 3, rides.value(3)), "ok 2 3").wantFaults("its next ride", api.BreakPreimage)
}

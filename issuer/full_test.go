package issuer_test

import (
	"math"
	"testing"

	"farebox/api"
	"farebox/issuer"
	"farebox/merkle"
	"farebox/ring"
)

// most is how many leaves a full log has.
const most = 65536

// logged is a pair whose log has so many leaves.
func logged(t *testing.T, s api.IssuerState, n int) *pair {
	t.Helper()
	p := stand(t, s)
	p.logUpTo(n)
	return p
}

// logUpTo makes the log as long as that, with leaves that the flash does not know of.
func (p *pair) logUpTo(n int) {
	p.t.Helper()
	issuer.LogUpTo(p.i, n)
	for k := len(p.m.s.Leaves); k < n; k++ {
		p.m.s.Leaves = append(p.m.s.Leaves, issuer.StandIn(k))
	}
	p.wantAll("a long log")
}

// payable is the four statuses, and serial 5, which can be paid.
func payable() api.IssuerState {
	x := carnet(5, 4, api.Freezing)
	x.Refund.Acked, x.Refund.Top = []bool{true, true, true}, 1
	return stateOf(append(fourStatuses().Carnets, x)...)
}

// logs are the operations that log, with their numbers, of payable.
func logs() map[string]struct {
	o    op
	nums []int64
} {
	return map[string]struct {
		o    op
		nums []int64
	}{
		"an order":                    {taking(4, order(9, 10)), []int64{6}},
		"Pay":                         {paying(5), []int64{2, 20}},
		"Revoke":                      {revoking(2), []int64{2}},
		"Raise":                       {raising(3), []int64{3}},
		"Raise of no carnet's serial": {raising(1), []int64{1}},
	}
}

// TestFullP23: each operation that logs, with the log one short of full, and then with a full one.
func TestFullP23(t *testing.T) {
	t.Parallel()
	for what, x := range logs() {
		p := logged(t, payable(), most-1)
		p.want(x.o, api.OK, x.nums...)
		if n := len(p.i.State().Leaves); n != most {
			t.Fatalf("%s: the log has %d leaves", what, n)
		}
		writes := p.f.Writes()
		for _, y := range logs() {
			p.do(y.o)
		}
		if n := len(p.i.State().Leaves); n != most || p.f.Writes() != writes {
			t.Errorf("%s: something was logged behind it", what)
		}
	}
}

// TestFullRefusesP23: with a full log what would be logged is refused by ErrRange, behind all other reasons; what logs nothing goes on.
func TestFullRefusesP23(t *testing.T) {
	t.Parallel()
	p := logged(t, payable(), most)
	for _, x := range logs() {
		p.unwritten(x.o, api.ErrRange)
	}
	p.unwritten(taking(4, order(1, 10)), api.OK, 1)
	p.unwritten(taking(4, order(1, 11)), api.ErrAnchor)
	p.unwritten(paying(1), api.ErrStatus)
	p.unwritten(paying(2), api.ErrOpen)
	p.unwritten(revoking(3), api.ErrStatus)
	p.unwritten(revoking(4), api.OK, 4)
	p.unwritten(revoking(6), api.ErrSerial)
	p.unwritten(raising(0), api.ErrArg)
	p.want(freezing(1), api.OK, 1)
	p.want(ack(1, 1, 1, 2), api.OK, 1, 2, 2)
	h := p.i.Head()
	root, _ := merkle.Root(p.m.s.Leaves)
	if h.Size != most || h.Root != root || !ring.CheckHead(keys(), h) {
		t.Errorf("P23.11: the head of a full log: %+v", h)
	}
	proof, err := p.i.Prove(3)
	if err != api.OK || len(proof) != 16 || !merkle.CheckInclusion(p.m.s.Leaves[2], 2, most, proof, h.Root) {
		t.Errorf("P23.11: Prove in a full log: %d hashes, %d", len(proof), err)
	}

	s := withFloor(payable(), 2)
	p = logged(t, s, most)
	p.unwritten(raising(1), api.ErrFloor)
	p.unwritten(raising(2), api.OK, 2)
	p.unwritten(raising(3), api.ErrRange)
}

// TestFullAndPoorP23: what the ledger refuses is told ahead of a full log, and so are serials and the Floor.
func TestFullAndPoorP23(t *testing.T) {
	t.Parallel()
	s := payable()
	s.Book.Net = [3]int64{math.MaxInt64, 0, 0}
	p := logged(t, s, most)
	p.unwritten(taking(4, order(9, 10)), api.ErrRange)
	p.unwritten(paying(5), api.ErrMoney)
	p.unwritten(revoking(1), api.ErrMoney)
	p.unwritten(raising(2), api.ErrMoney)
	p.unwritten(raising(1), api.ErrRange)
	s.Book.Net = [3]int64{-1000, 0, 0}
	p = logged(t, s, most)
	p.unwritten(taking(4, order(9, 10)), api.ErrMoney)
	p = logged(t, withFloor(payable(), 7), most)
	p.unwritten(taking(4, order(9, 10)), api.ErrFloor)
	p = logged(t, stateOf(append(payable().Carnets, carnet(6, 4, 1))...), most)
	p.unwritten(taking(4, order(9, 10)), api.ErrSerial)
}

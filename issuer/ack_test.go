package issuer_test

import (
	"testing"

	"farebox/api"
)

// TestAckP23_3: the gates acknowledge, in any order, brought by anybody; what the numbers tell, and what is kept.
func TestAckP23_3(t *testing.T) {
	for _, gates := range [][]int{{1, 2, 3}, {3, 1, 2}, {2, 3, 1}} {
		p := begin(t, config)
		p.want(taking(4, order(1, 10)), api.OK, 1)
		p.want(freezing(1), api.OK, 1)
		top := 0
		for n, gate := range gates {
			index := []int{1, 3, 0}[gate-1]
			top = max(top, index)
			body := tellAck(gate, api.Ack{Serial: 1, Gate: gate, Index: index, Value: value(1, 3, index)})
			a := p.want(taking(nodes[n*4], body), api.OK, 1, int64(top), int64(2-n))
			if len(a.Out) > 0 {
				t.Errorf("P23.3: an acknowledgement sends %+v", a.Out)
			}
			for _, from := range nodes {
				p.unwritten(taking(from, body), api.OK, 1, int64(top), int64(2-n))
			}
		}
		want := api.Refund{Serial: 1, Rides: 3, Acked: []bool{true, true, true}, Top: 3}
		if c := p.i.State().Carnets[0]; c.Status != api.Freezing || !sameRefund(c.Refund, want) || c.Paid != 0 {
			t.Errorf("P23.3: the carnet is %+v", c)
		}
		p.open()
	}
}

// TestOnceMoreP23_3: a gate that has acknowledged before, with a greater, the same and a lesser index.
func TestOnceMoreP23_3(t *testing.T) {
	p := begin(t, config)
	p.want(taking(4, order(1, 10)), api.OK, 1)
	p.want(freezing(1), api.OK, 1)
	p.want(ack(2, 1, 1, 1), api.OK, 1, 1, 2)
	p.unwritten(ack(2, 1, 1, 1), api.OK, 1, 1, 2)
	p.unwritten(ack(2, 1, 1, 0), api.OK, 1, 1, 2)
	p.want(ack(2, 1, 1, 2), api.OK, 1, 2, 2)
	p.unwritten(ack(2, 1, 1, 1), api.OK, 1, 2, 2)
	p.want(ack(1, 1, 1, 2), api.OK, 1, 2, 1) // another gate: the Top stays, the gate is new
	p.want(ack(3, 1, 1, 0), api.OK, 1, 2, 0)
	p.unwritten(ack(3, 1, 1, 2), api.OK, 1, 2, 0)
	p.want(ack(3, 1, 1, 3), api.OK, 1, 3, 0)
	p.open()
	p.unwritten(ack(3, 1, 1, 3), api.OK, 1, 3, 0)
}

// TestIndexP23_3: the index at both ends of the rides and one more, and values that are not the chain's.
func TestIndexP23_3(t *testing.T) {
	for _, rides := range []int{1, 3, 4096} {
		for _, index := range []int{0, 1, rides - 1, rides} {
			p := begin(t, config)
			p.want(taking(4, tellOrder(rides, 10, value(1, rides, 0))), api.OK, 1)
			p.want(freezing(1), api.OK, 1)
			tell := func(index int, v api.Hash) op {
				return taking(1, tellAck(1, api.Ack{Serial: 1, Gate: 1, Index: index, Value: v}))
			}
			good := value(1, rides, index)
			for bit := range 8 {
				bad := good
				bad[bit*4] ^= 1 << bit
				p.unwritten(tell(index, bad), api.ErrChain)
			}
			p.unwritten(tell(index, value(2, rides, index)), api.ErrChain)
			if index < rides {
				p.unwritten(tell(index+1, good), api.ErrChain)
				p.unwritten(tell(rides, good), api.ErrChain)
			}
			if rides < 4096 {
				p.unwritten(tell(rides+1, good), api.ErrAcked)
				p.unwritten(tell(4096, api.Hash{}), api.ErrAcked)
			}
			p.want(tell(index, good), api.OK, 1, int64(index), 2)
		}
	}
}

// TestSignedP23_3: who must have signed an acknowledgement; one bit of it turned.
func TestSignedP23_3(t *testing.T) {
	p := begin(t, config)
	p.want(taking(4, order(1, 10)), api.OK, 1)
	p.want(freezing(1), api.OK, 1)
	x := api.Ack{Serial: 1, Gate: 2, Index: 1, Value: value(1, 3, 1)}
	for node := range 6 {
		if node != 2 {
			p.unwritten(taking(2, tellAck(node, x)), api.ErrSign)
		}
	}
	for gate := 4; gate <= 16; gate++ { // gates that there are not
		y := x
		y.Gate = gate
		p.unwritten(taking(2, tellAck(gate%6, y)), api.ErrSign)
	}
	good := tellAck(2, x)
	for at := 4; at < len(good); at++ {
		b := []byte(good)
		b[at] ^= 1 << (at % 8)
		a := p.i.Take(2, b)
		if a.Err != api.ErrSign && (at >= 16 || a.Err != api.ErrForm && a.Err != api.ErrSerial) {
			t.Errorf("P23.3: an acknowledgement with a bit turned at %d: %+v", at, a)
		}
	}
	p.wantAll("P23.3: spoilt acknowledgements")
	p.want(taking(2, good), api.OK, 1, 1, 2)
}

// TestStatusesP23_3: an acknowledgement of a carnet in each of the four statuses, also below the Floor, and of serials that were not issued.
func TestStatusesP23_3(t *testing.T) {
	for _, s := range []api.IssuerState{fourStatuses(), withFloor(fourStatuses(), 7)} {
		p := stand(t, s)
		p.unwritten(ack(1, 1, 1, 1), api.ErrStatus)
		p.unwritten(ack(1, 3, 3, 1), api.ErrStatus)
		p.unwritten(ack(1, 4, 4, 1), api.ErrStatus)
		p.unwritten(ack(1, 5, 5, 1), api.ErrSerial)
		p.unwritten(ack(1, 65535, 5, 1), api.ErrSerial)
		p.want(ack(1, 2, 2, 1), api.OK, 2, 1, 2)
	}
}

// TestManyReasonsP23_3: where several reasons hold at once, the one that the chapter names first is told.
func TestManyReasonsP23_3(t *testing.T) {
	p := stand(t, fourStatuses())
	bad := func(x api.Ack) op { return taking(1, tellAck(0, x)) }
	good := func(x api.Ack) op { return taking(1, tellAck(x.Gate, x)) }
	p.unwritten(bad(api.Ack{Serial: 5, Gate: 1, Index: 4}), api.ErrSerial)
	p.unwritten(bad(api.Ack{Serial: 1, Gate: 1, Index: 4}), api.ErrSign)
	p.unwritten(bad(api.Ack{Serial: 2, Gate: 1, Index: 4}), api.ErrSign)
	p.unwritten(good(api.Ack{Serial: 1, Gate: 1, Index: 4}), api.ErrStatus)
	p.unwritten(good(api.Ack{Serial: 2, Gate: 1, Index: 4}), api.ErrAcked)
	p.unwritten(good(api.Ack{Serial: 2, Gate: 1, Index: 3}), api.ErrChain)
	// A Refund for fewer gates than there are, and one without any: the chain is asked ahead of that.
	s := fourStatuses()
	s.Carnets[1].Refund = api.Refund{Serial: 2, Rides: 3, Acked: []bool{false, true}, Top: 2}
	p = stand(t, s)
	p.unwritten(good(api.Ack{Serial: 2, Gate: 3, Index: 3}), api.ErrChain)
	p.unwritten(ack(3, 2, 2, 3), api.ErrAcked)
	p.want(ack(1, 2, 2, 1), api.OK, 2, 2, 0)
	s.Carnets[1].Refund = api.Refund{}
	p = stand(t, s)
	p.unwritten(good(api.Ack{Serial: 2, Gate: 1, Index: 3}), api.ErrChain)
	p.unwritten(ack(1, 2, 2, 0), api.ErrAcked)
	p.unwritten(ack(1, 2, 2, 3), api.ErrAcked)
}

// TestOddTopP23_3: Refunds that no call has made, with a Top above the rides or ahead of all gates, are gone on from as they stand.
func TestOddTopP23_3(t *testing.T) {
	s := fourStatuses()
	s.Carnets[1].Refund.Top = 4096
	p := stand(t, s)
	p.want(ack(1, 2, 2, 3), api.OK, 2, 4096, 2)
	p.want(ack(2, 2, 2, 0), api.OK, 2, 4096, 1)
	p.unwritten(ack(2, 2, 2, 3), api.OK, 2, 4096, 1)
	p.want(ack(3, 2, 2, 0), api.OK, 2, 4096, 0)
	p.unwritten(paying(2), api.ErrArg)
	p.open()
	// One for more gates than there are: the others are missing for ever.
	s = fourStatuses()
	s.Carnets[1].Refund.Acked = make([]bool, 16)
	p = stand(t, s)
	p.want(ack(1, 2, 2, 1), api.OK, 2, 1, 15)
	p.unwritten(paying(2), api.ErrOpen)
}

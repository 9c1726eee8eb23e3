package issuer_test

import (
	"math"
	"testing"

	"farebox/api"
)

// TestFreezeP23_4: a carnet of each status, above the Floor, at it and below it; serials that were not issued.
func TestFreezeP23_4(t *testing.T) {
	for floor := range 7 {
		s := fourStatuses()
		if floor > 0 {
			s = withFloor(s, floor)
		}
		below := func(serial int, or api.Errno) api.Errno {
			if serial < floor {
				return api.ErrFloor
			}
			return or
		}
		p := stand(t, s)
		for _, n := range []int{math.MinInt, -1, 0, 5, 6, 7, 65536, math.MaxInt} {
			p.unwritten(freezing(n), api.ErrSerial)
		}
		p.unwritten(freezing(3), below(3, api.ErrStatus))
		p.unwritten(freezing(4), below(4, api.ErrStatus))
		if floor > 1 {
			p.unwritten(freezing(1), api.ErrFloor)
		} else {
			p.want(freezing(1), api.OK, 1)
			if c := p.i.State().Carnets[0]; c.Status != api.Freezing || !sameRefund(c.Refund, api.Refund{Serial: 1, Rides: 3, Acked: make([]bool, 3)}) {
				t.Errorf("P23.4: the carnet is %+v", c)
			}
		}
		if floor > 2 {
			p.unwritten(freezing(2), api.ErrFloor)
		} else {
			p.unwritten(freezing(2), api.OK, 2)
		}
	}
}

// TestToldAgainP23_4: a freeze that is told again is the same, to all gates, and writes nothing, however many have acknowledged.
func TestToldAgainP23_4(t *testing.T) {
	p := begin(t, config)
	p.want(taking(4, order(1, 10)), api.OK, 1)
	first := p.want(freezing(1), api.OK, 1)
	if len(first.Out) != 3 {
		t.Fatalf("P23.4: %d freezes", len(first.Out))
	}
	for gate := range 4 {
		if gate > 0 {
			p.want(ack(gate, 1, 1, gate), api.OK, 1, int64(gate), int64(3-gate))
		}
		for range 2 {
			if a := p.unwritten(freezing(1), api.OK, 1); !sameAnswer(a, first) {
				t.Errorf("P23.4: the freeze told again: %+v", a)
			}
			p.open()
		}
	}
	// An Issued carnet whose snapshot tells of acknowledgements begins anew.
	s := fourStatuses()
	s.Carnets[0].Refund = api.Refund{Serial: 1, Rides: 3, Acked: []bool{true}, Top: 2}
	p = stand(t, s)
	p.want(freezing(1), api.OK, 1)
	p.unwritten(paying(1), api.ErrOpen)
	p.want(ack(1, 1, 1, 0), api.OK, 1, 0, 2)
}

// TestPayP23_5: what is paid back, for each greatest index, at several prices; to whom the receipt goes.
func TestPayP23_5(t *testing.T) {
	for top := range 4 {
		for _, price := range []int64{0, 1, 250, 1000000000} {
			for _, from := range []int{4, 5, 0} {
				p := begin(t, config)
				p.want(taking(from, order(1, price)), api.OK, 1)
				p.want(freezing(1), api.OK, 1)
				for gate := 1; gate <= 3; gate++ {
					p.unwritten(paying(1), api.ErrOpen)
					p.want(ack(gate, 1, 1, max(0, top-3+gate)), api.OK, 1, int64(max(0, top-3+gate)), int64(3-gate))
				}
				back, amount := int64(3-top), int64(3-top)*price
				a := p.want(paying(1), api.OK, back, amount)
				want := api.Answer{Nums: []int64{back, amount}}
				if from != 0 {
					want.Out = []api.Message{mail(from, tellReceipt(1, int(back), amount))}
				}
				if !sameAnswer(a, want) {
					t.Errorf("P23.5: Pay of %d rides at %d = %+v", back, price, a)
				}
				s := p.i.State()
				if c := s.Carnets[0]; c.Status != api.Paid || c.Paid != amount || c.Refund.Top != top || s.Leaves[1] != leafOf(tellReceipt(1, int(back), amount)) {
					t.Errorf("P23.5: the state %+v", s)
				}
				if s.Book.Net != [3]int64{3*price - amount, 0, amount - 3*price} {
					t.Errorf("P23.12: the book %v", s.Book.Net)
				}
				p.unwritten(paying(1), api.ErrStatus)
				p.open()
				p.unwritten(paying(1), api.ErrStatus)
			}
		}
	}
}

// TestStatusesP23_5: Pay of each status, of serials that were not issued, and below the Floor.
func TestStatusesP23_5(t *testing.T) {
	for _, s := range []api.IssuerState{fourStatuses(), withFloor(fourStatuses(), 7)} {
		p := stand(t, s)
		for _, n := range []int{math.MinInt, -1, 0, 5, 6, 7, 65536, math.MaxInt} {
			p.unwritten(paying(n), api.ErrSerial)
		}
		p.unwritten(paying(1), api.ErrStatus)
		p.unwritten(paying(2), api.ErrOpen)
		p.unwritten(paying(3), api.ErrStatus)
		p.unwritten(paying(4), api.ErrStatus)
		for gate := 1; gate <= 3; gate++ {
			p.want(ack(gate, 2, 2, 1), api.OK, 2, 1, int64(3-gate))
		}
		p.want(paying(2), api.OK, 2, 20)
	}
}

// refunding is a state in which serial 1, of three rides at 10, is Freezing with this Refund, and with these nets.
func refunding(x api.Refund, nets [3]int64) api.IssuerState {
	s := stateOf(carnet(1, 4, api.Freezing))
	s.Carnets[0].Refund, s.Book.Net = x, nets
	return s
}

// TestOddRefundsP23_5: Refunds that no call has made: without Acked, and with a Top above the rides.
func TestOddRefundsP23_5(t *testing.T) {
	even := [3]int64{30, -30, 0}
	all := []bool{true, true, true}
	for _, x := range []struct {
		refund api.Refund
		want   api.Errno
		nums   []int64
	}{
		{api.Refund{}, api.OK, []int64{0, 0}},
		{api.Refund{Top: 1}, api.ErrArg, nil},
		{api.Refund{Top: 4096}, api.ErrArg, nil},
		{api.Refund{Serial: 1, Rides: 3, Acked: all, Top: 3}, api.OK, []int64{0, 0}},
		{api.Refund{Serial: 1, Rides: 3, Acked: all, Top: 4}, api.ErrArg, nil},
		{api.Refund{Serial: 1, Rides: 3, Acked: all, Top: 4096}, api.ErrArg, nil},
		{api.Refund{Serial: 1, Rides: 3, Acked: all[:1], Top: 1}, api.OK, []int64{2, 20}},
		{api.Refund{Serial: 1, Rides: 3, Acked: []bool{true, false, true}, Top: 4}, api.ErrOpen, nil},
		{api.Refund{Serial: 1, Rides: 3, Acked: make([]bool, 16), Top: 1}, api.ErrOpen, nil},
	} {
		p := stand(t, refunding(x.refund, even))
		if x.want == api.OK {
			p.want(paying(1), api.OK, x.nums...)
			p.open()
		} else {
			p.unwritten(paying(1), x.want)
			p.unwritten(freezing(1), api.OK, 1)
			p.want(revoking(1), api.OK, 1)
			if got := p.i.State().Carnets[0].Refund; !sameRefund(got, x.refund) {
				t.Errorf("P23.6: the Refund is %+v, was %+v", got, x.refund)
			}
		}
	}
}

// TestOwnersP23_5: the receipt goes to the Owner that a snapshot tells, whoever that is.
func TestOwnersP23_5(t *testing.T) {
	for _, owner := range []int{0, 1, 3, 4, 5, 6, 24} {
		s := refunding(api.Refund{Serial: 1, Rides: 3, Acked: []bool{true, true, true}, Top: 1}, [3]int64{30, -30, 0})
		s.Carnets[0].Owner = owner
		p := stand(t, s)
		a := p.want(paying(1), api.OK, 2, 20)
		if owner == 0 && len(a.Out) > 0 || owner > 0 && (len(a.Out) != 1 || a.Out[0].To != owner) {
			t.Errorf("P23.5: the receipt of owner %d: %+v", owner, a.Out)
		}
		p.open()
	}
}

// TestMoneyP23_5: payments that the ledger refuses.
func TestMoneyP23_5(t *testing.T) {
	whole := api.Refund{Serial: 1, Rides: 3, Acked: []bool{true, true, true}}
	half := whole
	half.Top = 1
	for _, x := range []struct {
		refund api.Refund
		nets   [3]int64
		want   api.Errno
	}{
		{half, [3]int64{0, 0, 0}, api.ErrMoney},
		{half, [3]int64{20, -29, 0}, api.ErrMoney},
		{half, [3]int64{19, -30, 0}, api.ErrMoney},
		{half, [3]int64{20, -30, 0}, api.OK},
		{half, [3]int64{20, -30, -math.MaxInt64 + 9}, api.ErrRange},
		{half, [3]int64{20, -30, math.MinInt64}, api.ErrRange},
		{whole, [3]int64{30, -30, math.MinInt64}, api.ErrRange},
		{whole, [3]int64{30, -30, 1}, api.ErrMoney},
		{whole, [3]int64{29, -30, 0}, api.ErrMoney},
	} {
		p := stand(t, refunding(x.refund, x.nets))
		if x.want == api.OK {
			p.want(paying(1), api.OK, 2, 20)
		} else {
			p.unwritten(paying(1), x.want)
		}
	}
	// What is missing comes ahead of the money.
	p := stand(t, refunding(api.Refund{Serial: 1, Rides: 3, Acked: []bool{true, false}}, [3]int64{}))
	p.unwritten(paying(1), api.ErrOpen)
}

// TestRevokeP23_6: a carnet of each status, below the Floor too; twice; serials that were not issued.
func TestRevokeP23_6(t *testing.T) {
	for _, s := range []api.IssuerState{fourStatuses(), withFloor(fourStatuses(), 7)} {
		p := stand(t, s)
		for _, n := range []int{math.MinInt, -1, 0, 5, 6, 7, 65536, math.MaxInt} {
			p.unwritten(revoking(n), api.ErrSerial)
		}
		p.unwritten(revoking(3), api.ErrStatus)
		p.unwritten(revoking(4), api.OK, 4)
		p.want(ack(2, 2, 2, 1), api.OK, 2, 1, 2)
		for _, n := range []int{1, 2} {
			a := p.want(revoking(n), api.OK, int64(n))
			if want := toGates(config, n, tellRevocation(s.Carnets[n-1].Cert)); !sameAnswer(a, want) {
				t.Errorf("P23.6: Revoke(%d) = %+v, want %+v", n, a, want)
			}
			if again := p.unwritten(revoking(n), api.OK, int64(n)); !sameAnswer(a, again) {
				t.Errorf("P23.6: Revoke(%d) again = %+v, was %+v", n, again, a)
			}
		}
		c := p.i.State().Carnets[1]
		if c.Status != api.Revoked || !sameRefund(c.Refund, api.Refund{Serial: 2, Rides: 3, Acked: []bool{false, true, false}, Top: 1}) {
			t.Errorf("P23.6: a Freezing carnet becomes %+v", c)
		}
		p.unwritten(ack(1, 2, 2, 1), api.ErrStatus)
		p.unwritten(paying(2), api.ErrStatus)
		if got := p.i.State().Book.Net[api.Unearned]; got != 0 {
			t.Errorf("P23.12: Unearned is %d", got)
		}
	}
}

// TestMoneyP23_6: what the ledger refuses to retire; of what is retired already it is not asked.
func TestMoneyP23_6(t *testing.T) {
	for _, x := range []struct {
		nets [3]int64
		want api.Errno
	}{
		{[3]int64{0, -29, 0}, api.ErrMoney},
		{[3]int64{0, -30, 31}, api.ErrMoney},
		{[3]int64{0, -30, 0}, api.OK},
		{[3]int64{0, -30, 30}, api.OK},
		{[3]int64{-5, -30, 0}, api.OK},
		{[3]int64{0, -30, -math.MaxInt64 + 29}, api.ErrRange},
		{[3]int64{0, math.MaxInt64 - 29, 0}, api.ErrRange},
	} {
		s := fourStatuses()
		s.Book.Net = x.nets
		for _, n := range []int{1, 2} {
			p := stand(t, s)
			p.unwritten(revoking(3), api.ErrStatus)
			p.unwritten(revoking(4), api.OK, 4)
			if x.want == api.OK {
				p.want(revoking(n), api.OK, int64(n))
			} else {
				p.unwritten(revoking(n), x.want)
			}
		}
	}
}

// TestRaiseP23_7: floors at both ends and beyond, below, at and above the Floor; which carnets they retire.
func TestRaiseP23_7(t *testing.T) {
	for old := range 8 {
		for _, n := range numbers {
			s := stateOf(carnet(1, 4, 1), carnet(2, 5, 2), carnet(3, 4, 3), carnet(4, 0, 4), carnet(5, 5, 1))
			if old > 0 {
				s = withFloor(s, old)
			}
			p := stand(t, s)
			switch {
			case n < 1 || n > 7:
				p.unwritten(raising(n), api.ErrArg)
				continue
			case n < old:
				p.unwritten(raising(n), api.ErrFloor)
				continue
			case n == old:
				p.unwritten(raising(n), api.OK, int64(n))
				continue
			}
			a := p.want(raising(n), api.OK, int64(n))
			if !sameAnswer(a, toGates(config, n, tellFloor(floorOf(n)))) {
				t.Errorf("P23.7: Raise(%d) = %+v", n, a)
			}
			after := p.i.State()
			for k, c := range s.Carnets {
				want := c.Status
				if k+1 < n && want == api.Issued {
					want = api.Revoked
				}
				c.Status = want
				if !sameCarnet(after.Carnets[k], c) {
					t.Errorf("P23.7: serial %d below %d becomes %+v", k+1, n, after.Carnets[k])
				}
			}
			if after.Floor != floorOf(n) || len(after.Leaves) != 6 || after.Leaves[5] != leafOf(tellFloor(floorOf(n))) {
				t.Errorf("P23.7: the Floor is %+v, and there are %d leaves", after.Floor, len(after.Leaves))
			}
			if again := p.unwritten(raising(n), api.OK, int64(n)); !sameAnswer(a, again) {
				t.Errorf("P23.7: the Floor told again: %+v", again)
			}
			p.open()
			p.unwritten(raising(n), api.OK, int64(n))
		}
	}
}

// TestSigP23_7: the Floor is told as the state has it, whatever its signature is.
func TestSigP23_7(t *testing.T) {
	s := fourStatuses()
	s.Floor = api.Floor{Floor: 3, Sig: api.Sig{1, 2, 3}}
	p := stand(t, s)
	a := p.unwritten(raising(3), api.OK, 3)
	if len(a.Out) != 3 || string(a.Out[2].Body) != tellFloor(s.Floor) {
		t.Errorf("P23.7: the Floor told: %+v", a)
	}
	p.want(raising(4), api.OK, 4)
	// A Floor above all that the configuration allows is never told again, and never raised.
	s.Floor = api.Floor{Floor: 65536}
	p = stand(t, s)
	p.unwritten(raising(7), api.ErrFloor)
	p.unwritten(raising(8), api.ErrArg)
	p.unwritten(raising(65536), api.ErrArg)
}

// TestGreatestP23_7: the configuration with the most serials has the greatest floor.
func TestGreatestP23_7(t *testing.T) {
	c := config
	c.Serials = 65535
	p := begin(t, c)
	p.unwritten(raising(65537), api.ErrArg)
	p.want(raising(65536), api.OK, 65536)
	p.unwritten(raising(65536), api.OK, 65536)
	p.unwritten(raising(65535), api.ErrFloor)
	p.unwritten(taking(4, order(1, 1)), api.ErrFloor)
	p.open()
}

// TestMoneyP23_7: a floor whose second carnet the ledger refuses to retire retires none.
func TestMoneyP23_7(t *testing.T) {
	s := stateOf(carnet(1, 4, 1), carnet(2, 5, 1), carnet(3, 4, 2))
	s.Book.Net = [3]int64{90, -45, 0}
	p := stand(t, s)
	p.unwritten(raising(3), api.ErrMoney)
	p.unwritten(raising(7), api.ErrMoney)
	p.want(raising(2), api.OK, 2)
	p.unwritten(raising(3), api.ErrMoney)
	s.Book.Net = [3]int64{90, -90, -math.MaxInt64 + 59}
	p = stand(t, s)
	p.unwritten(raising(3), api.ErrRange)
	p.want(raising(2), api.OK, 2)
	// By rising serial: the first one that is refused tells why.
	s.Book.Net = [3]int64{90, -30, -math.MaxInt64 + 30}
	p = stand(t, s)
	p.unwritten(raising(3), api.ErrRange)
	s.Book.Net = [3]int64{90, 0, -math.MaxInt64 + 30}
	p = stand(t, s)
	p.unwritten(raising(3), api.ErrMoney)
	// What is refused for its number is refused for that.
	p.unwritten(raising(8), api.ErrArg)
}

// TestBelowTheFloorP23_7: a Freezing carnet below the Floor is paid once all gates have acknowledged, and is not frozen again; or it is revoked.
func TestBelowTheFloorP23_7(t *testing.T) {
	for _, revoke := range []bool{false, true} {
		p := begin(t, config)
		p.want(taking(4, order(1, 10)), api.OK, 1)
		p.want(freezing(1), api.OK, 1)
		p.want(ack(1, 1, 1, 1), api.OK, 1, 1, 2)
		p.want(raising(2), api.OK, 2)
		p.unwritten(freezing(1), api.ErrFloor)
		p.unwritten(paying(1), api.ErrOpen)
		p.want(ack(2, 1, 1, 2), api.OK, 1, 2, 1)
		if revoke {
			p.want(revoking(1), api.OK, 1)
			p.unwritten(ack(3, 1, 1, 2), api.ErrStatus)
			p.unwritten(paying(1), api.ErrStatus)
		} else {
			p.want(ack(3, 1, 1, 2), api.OK, 1, 2, 0)
			p.want(paying(1), api.OK, 1, 10)
		}
		p.open()
	}
}

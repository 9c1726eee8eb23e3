package issuer_test

import (
	"math"
	"testing"

	"farebox/api"
)

// TestFromP23_2: an order from each node: who owns the carnet, and whom the certificate goes to.
func TestFromP23_2(t *testing.T) {
	for _, from := range nodes {
		to, owner := -1, 0
		if from == 4 || from == 5 {
			to, owner = from, from
		}
		p := begin(t, config)
		a := p.want(taking(from, order(1, 250)), api.OK, 1)
		cert := sealed(api.Cert{Serial: 1, Rides: 3, Price: 250, Anchor: anchor(1)})
		if !sameAnswer(a, api.Answer{Nums: []int64{1}, Out: []api.Message{mail(to, tellCert(cert))}}) {
			t.Errorf("P23.2: an order from %d = %+v", from, a)
		}
		wantState(t, "P23.2", p.i.State(), api.IssuerState{
			Book:    api.Book{Net: [3]int64{750, -750, 0}},
			Carnets: []api.Carnet{{Owner: owner, Cert: cert, Status: api.Issued}},
			Leaves:  []api.Hash{leafOf(tellCert(cert))},
		})
		p.open()
		for _, other := range nodes {
			again := p.unwritten(taking(other, order(1, 250)), api.OK, 1)
			if string(again.Out[0].Body) != string(a.Out[0].Body) || again.Out[0].To != to && other == from {
				t.Errorf("P23.2: the same order from %d = %+v", other, again)
			}
		}
		if got := p.i.State().Carnets[0].Owner; got != owner {
			t.Errorf("P23.2: the owner is %d now, not %d", got, owner)
		}
	}
}

// TestOneAnchorP23_2: an anchor that is certified brings its own certificate or ErrAnchor, whatever the carnet's status, and however full all is.
func TestOneAnchorP23_2(t *testing.T) {
	for _, s := range []api.IssuerState{fourStatuses(), withFloor(fourStatuses(), 7), stateOf(carnet(1, 4, 1), carnet(2, 4, 2), carnet(3, 4, 3), carnet(4, 4, 4), carnet(5, 4, 1), carnet(6, 4, 1))} {
		p := stand(t, s)
		for k := range s.Carnets {
			p.unwritten(taking(4, order(k+1, 10)), api.OK, int64(k+1))
			p.unwritten(taking(4, order(k+1, 11)), api.ErrAnchor)
			p.unwritten(taking(4, order(k+1, 0)), api.ErrAnchor)
			p.unwritten(taking(4, tellOrder(2, 10, anchor(k+1))), api.ErrAnchor)
			p.unwritten(taking(4, tellOrder(4096, 10, anchor(k+1))), api.ErrAnchor)
			p.unwritten(taking(0, tellOrder(1, 1000000000, anchor(k+1))), api.ErrAnchor)
		}
	}
	// An anchor that differs in one bit is another one.
	p := begin(t, config)
	p.want(taking(4, order(1, 10)), api.OK, 1)
	near := anchor(1)
	near[31] ^= 1
	p.want(taking(4, tellOrder(3, 10, near)), api.OK, 2)
	near[31], near[0] = anchor(1)[31], near[0]^128
	p.want(taking(4, tellOrder(3, 10, near)), api.OK, 3)
	p.want(taking(4, tellOrder(3, 10, api.Hash{})), api.OK, 4)
	p.unwritten(taking(4, tellOrder(3, 10, api.Hash{})), api.OK, 4)
}

// TestTwiceP23_2: of a snapshot in which an anchor stands twice, the first carnet decides.
func TestTwiceP23_2(t *testing.T) {
	s := stateOf(carnet(1, 4, 1), carnet(2, 4, 1), carnet(3, 5, 1))
	s.Carnets[1].Cert = sealed(api.Cert{Serial: 2, Rides: 3, Price: 20, Anchor: anchor(7)})
	s.Carnets[2].Cert = sealed(api.Cert{Serial: 3, Rides: 2, Price: 20, Anchor: anchor(7)})
	p := stand(t, s)
	p.unwritten(taking(4, tellOrder(3, 20, anchor(7))), api.OK, 2)
	p.unwritten(taking(4, tellOrder(2, 20, anchor(7))), api.ErrAnchor)
	p.want(taking(4, order(8, 10)), api.OK, 4)
}

// TestSerialsP23_2: the serials follow one another up to the last one; then there is none left, and none comes back.
func TestSerialsP23_2(t *testing.T) {
	for _, serials := range []int{1, 2, 6} {
		c := config
		c.Serials = serials
		p := begin(t, c)
		for n := 1; n <= serials; n++ {
			p.want(taking(4+n%2, order(n, int64(n))), api.OK, int64(n))
		}
		p.unwritten(taking(4, order(99, 5)), api.ErrSerial)
		p.want(revoking(serials), api.OK, int64(serials))
		p.unwritten(taking(4, order(99, 5)), api.ErrSerial)
		p.open()
		p.unwritten(taking(4, order(99, 5)), api.ErrSerial)
	}
	// A snapshot with more carnets than the configuration has serials is gone on from.
	c := config
	c.Serials = 2
	p := resume(t, c, 4096, 1, snapshot(fourStatuses()))
	p.unwritten(taking(4, order(99, 5)), api.ErrSerial)
	p.unwritten(taking(4, order(4, 10)), api.OK, 4)
	p.want(freezing(1), api.OK, 1)
	p.want(raising(3), api.OK, 3)
	p.unwritten(raising(4), api.ErrArg)
}

// TestFloorP23_2: an order whose serial would be below the Floor, at it and above it.
func TestFloorP23_2(t *testing.T) {
	for floor := 1; floor <= 7; floor++ {
		p := begin(t, config)
		p.want(taking(4, order(1, 10)), api.OK, 1)
		p.want(taking(4, order(2, 10)), api.OK, 2)
		p.want(raising(floor), api.OK, int64(floor))
		if floor > 3 {
			p.unwritten(taking(4, order(3, 10)), api.ErrFloor)
			p.unwritten(taking(4, order(1, 10)), api.OK, 1)
		} else {
			p.want(taking(4, order(3, 10)), api.OK, 3)
		}
	}
}

// TestMoneyP23_2: a sale that the ledger refuses, and those by the ends of what it takes.
func TestMoneyP23_2(t *testing.T) {
	for _, x := range []struct {
		net   [3]int64
		rides int
		price int64
		want  api.Errno
	}{
		{[3]int64{math.MaxInt64 - 30, 0, 0}, 3, 10, api.OK},
		{[3]int64{math.MaxInt64 - 29, 0, 0}, 3, 10, api.ErrRange},
		{[3]int64{0, -math.MaxInt64 + 30, 0}, 3, 10, api.OK},
		{[3]int64{0, -math.MaxInt64 + 29, 0}, 3, 10, api.ErrRange},
		{[3]int64{0, math.MinInt64, 0}, 3, 10, api.ErrRange},
		{[3]int64{math.MinInt64, 0, 0}, 3, 0, api.ErrRange},
		{[3]int64{-31, 0, 0}, 3, 10, api.ErrMoney},
		{[3]int64{-30, 0, 0}, 3, 10, api.OK},
		{[3]int64{0, 31, 0}, 3, 10, api.ErrMoney},
		{[3]int64{0, 30, 0}, 3, 10, api.OK},
		{[3]int64{0, 1, 0}, 1, 0, api.ErrMoney},
		{[3]int64{0, 0, math.MinInt64}, 3, 10, api.OK}, // the third account is not looked at
		{[3]int64{0, 0, math.MaxInt64}, 4096, 1000000000, api.OK},
	} {
		p := stand(t, api.IssuerState{Book: api.Book{Net: x.net}})
		o := taking(4, tellOrder(x.rides, x.price, anchor(1)))
		if x.want == api.OK {
			p.want(o, api.OK, 1)
			p.open()
		} else {
			p.unwritten(o, x.want)
		}
	}
}

// TestManyReasonsP23_2: where several reasons hold at once, the one that the chapter names first is told.
func TestManyReasonsP23_2(t *testing.T) {
	six := stateOf(carnet(1, 4, 1), carnet(2, 4, 1), carnet(3, 4, 1), carnet(4, 4, 1), carnet(5, 4, 1), carnet(6, 4, 1))
	six.Floor = api.Floor{Floor: 65536}
	six.Book.Net = [3]int64{math.MaxInt64, 0, 0}
	p := stand(t, six)
	p.unwritten(taking(4, order(1, 11)), api.ErrAnchor)
	p.unwritten(taking(4, order(7, 10)), api.ErrSerial)
	six.Carnets = six.Carnets[:5]
	p = stand(t, six)
	p.unwritten(taking(4, order(5, 11)), api.ErrAnchor)
	p.unwritten(taking(4, order(7, 10)), api.ErrFloor)
	six.Floor = api.Floor{Floor: 6}
	p = stand(t, six)
	p.unwritten(taking(4, order(7, 10)), api.ErrRange)
}

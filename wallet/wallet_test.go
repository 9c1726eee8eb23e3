package wallet_test

import (
	"math"
	"testing"

	"farebox/api"
	"farebox/chain"
	"farebox/flash"
	"farebox/ring"
	"farebox/terms"
	"farebox/wallet"
)

// TestExamplesP18: the chapter's table, row by row, with the chapter's one wallet.
func TestExamplesP18(t *testing.T) {
	c := config
	c.Wallets = 1
	f := flash.New(4096)
	w, err := wallet.Open(c, keys(), 1, f)
	if err != api.OK {
		t.Fatalf("P18.1: Open = %d", err)
	}
	want := func(what string, got api.Answer, err api.Errno, nums ...int64) {
		t.Helper()
		if got.Err != err || !sameAnswer(api.Answer{Nums: got.Nums}, api.Answer{Nums: nums}) || err != api.OK && len(got.Out) > 0 {
			t.Errorf("%s = %+v, want %d %v", what, got, err, nums)
		}
	}
	want("Buy(0, 100)", w.Buy(0, 100), api.ErrArg)
	want("Buy(4097, 100)", w.Buy(4097, 100), api.ErrArg)
	want("Buy(3, -1)", w.Buy(3, -1), api.ErrArg)
	bought := w.Buy(3, 250)
	order, _ := terms.EncodeOrder(api.Order{Rides: 3, Price: 250, Anchor: value(3, 1, 3, 0)})
	if !sameAnswer(bought, api.Answer{Nums: []int64{1}, Out: []api.Message{{From: 3, To: 0, Body: order}}}) {
		t.Errorf("Buy(3, 250) = %+v", bought)
	}
	want("Ride(1, 1) without a certificate", w.Ride(1, 1), api.ErrPurse)

	cert := api.Cert{Serial: 1, Rides: 3, Price: 250, Anchor: value(3, 1, 3, 0)}
	C := ring.SealCert(seed(0), cert)
	want("Take(C)", w.Take([]byte(tell(C))), api.OK, 1, 1)
	writes := f.Writes()
	want("Take(C) again", w.Take([]byte(tell(C))), api.OK, 1, 1)
	if f.Writes() != writes {
		t.Error("Take(C) again has written")
	}
	cert.Serial = 2
	want("Take(C with another serial)", w.Take([]byte(tell(ring.SealCert(seed(0), cert)))), api.ErrOther)
	turned := C
	turned.Sig[9] ^= 4
	want("Take(C with a bit of its Sig turned)", w.Take([]byte(tell(turned))), api.ErrSign)
	cert.Anchor[0] ^= 1
	want("Take(another anchor)", w.Take([]byte(tell(ring.SealCert(seed(0), cert)))), api.ErrPurse)
	ticket, _ := terms.EncodeTicket(api.Ticket{Cert: C, Index: 1})
	want("Take(a ticket)", w.Take(ticket), api.ErrDomain)
	want("Take(no bytes)", w.Take(nil), api.ErrForm)
	want("Ride(1, 3)", w.Ride(1, 3), api.ErrArg)
	want("Ride(2, 1)", w.Ride(2, 1), api.ErrPurse)
	want("Ride(0, 1)", w.Ride(0, 1), api.ErrPurse)

	ridden := w.Ride(1, 1)
	ticket, _ = terms.EncodeTicket(api.Ticket{Cert: C, Index: 1, Value: value(3, 1, 3, 1)})
	if !sameAnswer(ridden, api.Answer{Nums: []int64{1, 1}, Out: []api.Message{{From: 3, To: 1, Body: ticket}}}) {
		t.Errorf("Ride(1, 1) = %+v", ridden)
	}
	again := func() {
		f.Restart()
		if w, err = wallet.Open(c, keys(), 1, f); err != api.OK {
			t.Fatalf("P18.1: Open = %d", err)
		}
	}
	f.Arm(1, 0)
	want("Ride(1, 2), nothing kept", w.Ride(1, 2), api.ErrDown)
	again()
	want("Ride(1, 2)", w.Ride(1, 2), api.OK, 1, 2)
	f.Arm(1, 4096)
	want("Ride(1, 2), all kept", w.Ride(1, 2), api.ErrDown)
	again()
	want("Ride(1, 2), burnt", w.Ride(1, 2), api.ErrSpent)
	R := receiptFor(1, 1, 250)
	want("Take(the receipt)", w.Take([]byte(tellReceipt(R))), api.OK, 1, 250)
	wantState(t, "State", w.State(), []api.Purse{{Chain: 1, Rides: 3, Price: 250, Cert: C, Revealed: 3, Refund: R}})
}

// TestBuyP18_3: rides and price at both ends and beyond.
func TestBuyP18_3(t *testing.T) {
	p := begin(t, 4096)
	bought := int64(0)
	for _, rides := range []int{math.MinInt, -1, 0, 1, 2, 4096, 4097, 1<<32 + 1, math.MaxInt} {
		for _, price := range []int64{math.MinInt64, -1, 0, 1, 1000000000, 1000000001, 1 << 32, math.MaxInt64} {
			may := rides >= 1 && rides <= 4096 && price >= 0 && price <= 1000000000
			if !may {
				p.unwritten("Buy", func() { p.wantErr("Buy", p.buy(rides, price), api.ErrArg) })
				continue
			}
			bought++
			p.wantNums("Buy", p.buy(rides, price), bought)
		}
	}
	if bought != 9 {
		t.Errorf("%d were bought", bought)
	}
}

// TestChainsP18_3: each purse has a chain of its own, and each wallet too.
func TestChainsP18_3(t *testing.T) {
	met := map[api.Hash]int{}
	for n := 1; n <= config.Wallets; n++ {
		w, err := wallet.Open(config, keys(), n, flash.New(4096))
		if err != api.OK {
			t.Fatalf("P18.1: Open = %d", err)
		}
		for k := 1; k <= 5; k++ {
			a := w.Buy(7, 7)
			x, err := terms.DecodeOrder(a.Out[0].Body)
			if err != api.OK || a.Out[0].From != config.Gates+n || a.Out[0].To != 0 || a.Out[0].ID != 0 {
				t.Fatalf("P18.3: wallet %d has sent %+v, %d", n, a.Out[0], err)
			}
			if x != (api.Order{Rides: 7, Price: 7, Anchor: value(config.Gates+n, k, 7, 0)}) {
				t.Errorf("P18.3: order %d of wallet %d is %+v", k, n, x)
			}
			met[x.Anchor]++
		}
	}
	if len(met) != 15 {
		t.Errorf("P18.3: %d anchors", len(met))
	}
}

// carnets is a wallet with certificates of the serials 5, 4 and 6 for its purses 1, 2 and 4 (purse 3 has none), of 3, 1, 3 and 3 rides.
func carnets(t *testing.T, size int) *pair {
	t.Helper()
	p := begin(t, size)
	p.buy(3, 250)
	p.buy(1, 0)
	p.buy(3, 250)
	p.buy(3, 1000000000)
	p.wantNums("Take", p.takeCert(certFor(5, 1, 3, 250)), 5, 1)
	p.wantNums("Take", p.takeCert(certFor(4, 2, 1, 0)), 4, 2)
	p.wantNums("Take", p.takeCert(certFor(6, 4, 3, 1000000000)), 6, 4)
	return p
}

// TestRideRefusedP18_4: serials that no purse has, gates that are none, and which of several reasons is told.
func TestRideRefusedP18_4(t *testing.T) {
	p := carnets(t, 4096)
	serials := []int{math.MinInt, -1, 0, 1, 3, 7, 65535, 1<<32 + 5, math.MaxInt}
	gates := []int{math.MinInt, -1, 0, 3, 4, 5, 1<<32 + 1, math.MaxInt}
	p.unwritten("a Ride that is refused", func() {
		for _, serial := range serials {
			for _, gate := range append(gates, 1, 2) {
				p.wantErr("Ride of a serial that no purse has", p.ride(serial, gate), api.ErrPurse)
			}
		}
		for _, gate := range gates {
			p.wantErr("Ride to no gate", p.ride(5, gate), api.ErrArg)
		}
	})
	p.wantNums("Ride", p.ride(4, 1), 4, 1)
	p.takeReceipt(receiptFor(6, 3, 5))
	p.unwritten("a Ride that is refused", func() {
		for _, gate := range gates {
			p.wantErr("Ride to no gate, of a spent carnet", p.ride(4, gate), api.ErrArg)
			p.wantErr("Ride to no gate, of a refunded one", p.ride(6, gate), api.ErrArg)
		}
		p.wantErr("Ride of a spent carnet", p.ride(4, 2), api.ErrSpent)
		p.wantErr("Ride of a refunded one", p.ride(6, 2), api.ErrSpent)
	})
}

// TestRideP18_4: all rides of several carnets, by turns, and one more of each.
func TestRideP18_4(t *testing.T) {
	p := carnets(t, 4096)
	for index := int64(1); index <= 3; index++ {
		p.wantNums("Ride", p.ride(6, 2), 6, index)
		p.wantNums("Ride", p.ride(5, 1), 5, index)
	}
	p.wantNums("Ride", p.ride(4, 2), 4, 1)
	for range 2 {
		for serial := 4; serial <= 6; serial++ {
			p.unwritten("Ride", func() { p.wantErr("one more", p.ride(serial, 1), api.ErrSpent) })
		}
	}
}

// TestGatesP18_4: the greatest gate is the configuration's.
func TestGatesP18_4(t *testing.T) {
	for _, gates := range []int{1, 2, 16} {
		c := config
		c.Gates = gates
		r, _ := ring.Make(c)
		w, _ := wallet.Open(c, r, 1, flash.New(4096))
		own := derived(derived(c.Secret, "node", gates+1), "chain", 1)
		anchor, _ := chain.Anchor(own, 9)
		w.Buy(9, 9)
		if a := w.Take([]byte(tell(ring.SealCert(seed(0), api.Cert{Serial: 1, Rides: 9, Price: 9, Anchor: anchor})))); a.Err != api.OK {
			t.Fatalf("P18.5: Take = %d", a.Err)
		}
		for _, gate := range []int{1, gates} {
			if a := w.Ride(1, gate); a.Err != api.OK || a.Out[0].To != gate || a.Out[0].From != gates+1 {
				t.Errorf("P18.4: Ride to gate %d of %d = %+v", gate, gates, a)
			}
		}
		for _, gate := range []int{0, gates + 1} {
			if a := w.Ride(1, gate); a.Err != api.ErrArg {
				t.Errorf("P18.4: Ride to gate %d of %d = %+v", gate, gates, a)
			}
		}
	}
}

// TestLongCarnetP18_4: the longest chain, whose first and last rides check against the anchor.
func TestLongCarnetP18_4(t *testing.T) {
	cert := certFor(9, 1, 4096, 3)
	for _, revealed := range []uint32{0, 1, 2047, 4094, 4095} {
		p := resume(t, 4096, 1, snapshotOf(purse(4096, 3, tell(cert), revealed, "")))
		a := p.ride(9, 2)
		x, err := terms.DecodeTicket(a.Out[0].Body)
		if err != api.OK || x.Index != int(revealed)+1 || !chain.Check(cert.Anchor, 4096, x.Index, x.Value) {
			t.Errorf("P18.4: the ticket behind %d is %+v, %d", revealed, x, err)
		}
	}
}

// TestStateP18_6: what State tells of no purse, and behind each kind of call.
func TestStateP18_6(t *testing.T) {
	p := begin(t, 4096)
	wantState(t, "no purse", p.w.State(), nil)
	p.buy(3, 250)
	wantState(t, "Buy", p.w.State(), []api.Purse{{Chain: 1, Rides: 3, Price: 250}})
	p.buy(1, 0)
	wantState(t, "Buy", p.w.State(), []api.Purse{{Chain: 1, Rides: 3, Price: 250}, {Chain: 2, Rides: 1}})
	C, R := certFor(8, 1, 3, 250), receiptFor(8, 2, 500)
	p.takeCert(C)
	wantState(t, "Take", p.w.State(), []api.Purse{{Chain: 1, Rides: 3, Price: 250, Cert: C}, {Chain: 2, Rides: 1}})
	p.ride(8, 2)
	wantState(t, "Ride", p.w.State(), []api.Purse{{Chain: 1, Rides: 3, Price: 250, Cert: C, Revealed: 1}, {Chain: 2, Rides: 1}})
	p.takeReceipt(R)
	wantState(t, "Take", p.w.State(), []api.Purse{{Chain: 1, Rides: 3, Price: 250, Cert: C, Revealed: 1, Refund: R}, {Chain: 2, Rides: 1}})
}

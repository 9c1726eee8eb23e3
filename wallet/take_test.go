package wallet_test

import (
	"math"
	"testing"

	"farebox/api"
	"farebox/ring"
	"farebox/terms"
)

// TestNoMessageP18_5: bytes that are no message, and messages of kinds that a wallet does not take.
func TestNoMessageP18_5(t *testing.T) {
	p := carnets(t, 4096)
	cert, receipt := tell(certFor(5, 1, 3, 250)), tellReceipt(receiptFor(5, 1, 1))
	for body, want := range map[string]api.Errno{
		"":                                   api.ErrForm,
		"F":                                  api.ErrForm,
		"FB\x01":                             api.ErrForm,
		"FB\x02\x01" + cert[4:]:              api.ErrForm,
		"GB\x01\x01" + cert[4:]:              api.ErrForm,
		"FB\x01\x00" + cert[4:]:              api.ErrForm,
		string(make([]byte, 1024)):           api.ErrForm,
		string(make([]byte, 1025)):           api.ErrLong,
		cert + string(make([]byte, 908)):     api.ErrForm,
		cert + string(make([]byte, 909)):     api.ErrLong,
		"FB\x01\x02" + cert[4:]:              api.ErrDomain,
		"FB\x01\x0b" + cert[4:]:              api.ErrDomain,
		"FB\x01\xff":                         api.ErrDomain,
		"FB\x01\x03":                         api.ErrDomain,
		"FB\x01\x01":                         api.ErrForm,
		"FB\x01\x08":                         api.ErrForm,
		"FB\x01\x08" + cert[4:]:              api.ErrForm,
		"FB\x01\x01" + receipt[4:]:           api.ErrForm,
		cert[:115]:                           api.ErrForm,
		cert + "\x00":                        api.ErrForm,
		receipt[:83]:                         api.ErrForm,
		receipt + "\x00":                     api.ErrForm,
		cert[:4] + u32(0) + cert[8:]:         api.ErrForm,
		cert[:4] + u32(65536) + cert[8:]:     api.ErrForm,
		receipt[:4] + u32(0) + receipt[8:]:   api.ErrForm,
		receipt[:12] + "\x80" + receipt[13:]: api.ErrForm,
	} {
		p.unwritten("Take", func() { p.wantErr("Take of no message", p.take([]byte(body)), want) })
	}
}

// others are messages of the eight other kinds, all well signed.
func others() map[string][]byte {
	c := certFor(5, 1, 3, 250)
	out := map[string][]byte{}
	put := func(name string, b []byte, err api.Errno) {
		if err != api.OK {
			panic(name)
		}
		out[name] = b
	}
	b, err := terms.EncodeTicket(api.Ticket{Cert: c, Index: 1, Value: value(node, 1, 3, 1)})
	put("a ticket", b, err)
	b, err = terms.EncodeEntry(api.Entry{Cert: c, Value: c.Anchor})
	put("an entry", b, err)
	b, err = terms.EncodeFreeze(ring.SealFreeze(seed(0), api.Freeze{Cert: c}))
	put("a freeze", b, err)
	b, err = terms.EncodeAck(ring.SealAck(seed(1), api.Ack{Serial: 5, Gate: 1}))
	put("an acknowledgement", b, err)
	b, err = terms.EncodeRevocation(ring.SealRevocation(seed(0), api.Revocation{Cert: c}))
	put("a revocation", b, err)
	b, err = terms.EncodeFloor(ring.SealFloor(seed(0), api.Floor{Floor: 9}))
	put("a floor", b, err)
	b, err = terms.EncodeOrder(api.Order{Rides: 3, Price: 250, Anchor: c.Anchor})
	put("an order", b, err)
	b, err = terms.EncodeHead(ring.SealHead(seed(0), api.Head{Size: 3}))
	put("a head", b, err)
	return out
}

func TestOtherKindsP18_5(t *testing.T) {
	p := begin(t, 4096)
	p.buy(3, 250)
	list := others()
	if len(list) != 8 {
		t.Errorf("%d kinds", len(list))
	}
	for name, body := range list {
		p.unwritten(name, func() { p.wantErr(name, p.take(body), api.ErrDomain) })
	}
}

// wantTurned takes a message with each of its bits turned: all are refused, those behind the head that are in range for their signature.
func wantTurned(t *testing.T, p *pair, body string) {
	t.Helper()
	met := map[api.Errno]int{}
	p.unwritten("Take of a turned bit", func() {
		for i := range len(body) * 8 {
			b := []byte(body)
			b[i/8] ^= 1 << (i % 8)
			a := p.w.Take(b)
			if a.Err == api.OK || len(a.Nums)+len(a.Out) > 0 {
				t.Errorf("P18.5: Take with bit %d turned = %+v", i, a)
			}
			met[a.Err]++
		}
	})
	p.wantAll("P18.5: Take of a turned bit")
	if met[api.ErrSign] < 64*8 || met[api.ErrForm] == 0 || met[api.ErrDomain] == 0 || len(met) != 3 {
		t.Errorf("P18.5: turned bits were refused so: %v", met)
	}
}

func TestTurnedBitsP18_5(t *testing.T) {
	p := begin(t, 4096)
	p.buy(3, 250)
	cert, receipt := certFor(5, 1, 3, 250), receiptFor(5, 1, 250)
	wantTurned(t, p, tell(cert))
	p.wantNums("Take", p.takeCert(cert), 5, 1)
	wantTurned(t, p, tell(cert))
	wantTurned(t, p, tellReceipt(receipt))
	p.wantNums("Take", p.takeReceipt(receipt), 1, 250)
	wantTurned(t, p, tellReceipt(receipt))
	wantTurned(t, p, tell(cert))
}

// TestOtherSignersP18_5: what anybody but the issuer has signed, whatever else is wrong with it, is refused for its signature.
func TestOtherSignersP18_5(t *testing.T) {
	p := carnets(t, 4096)
	p.takeReceipt(receiptFor(6, 1, 1))
	p.unwritten("Take", func() {
		for _, by := range []api.Hash{seed(1), seed(2), seed(3), seed(node), {}, {9}} {
			for _, x := range []api.Cert{certFor(5, 1, 3, 250), certFor(9, 3, 3, 250), certFor(5, 3, 3, 250), certFor(9, 9, 3, 250), certFor(9, 1, 7, 7)} {
				p.wantErr("a certificate", p.takeCert(ring.SealCert(by, x)), api.ErrSign)
			}
			for _, x := range []api.Receipt{{Serial: 5}, {Serial: 6}, {Serial: 6, Rides: 1, Amount: 1}, {Serial: 9}} {
				p.wantErr("a receipt", p.takeReceipt(ring.SealReceipt(by, x)), api.ErrSign)
			}
		}
		// The signature of another kind, or of another term of the kind, is none either.
		x, y := certFor(9, 3, 3, 250), receiptFor(5, 1, 1)
		y.Sig = x.Sig
		p.wantErr("a certificate's signature", p.takeReceipt(y), api.ErrSign)
		x.Sig = receiptFor(5, 1, 1).Sig
		p.wantErr("a receipt's signature", p.takeCert(x), api.ErrSign)
	})
}

// TestNoPurseP18_5: certificates with rides, price or anchor of no purse, or with each of another one.
func TestNoPurseP18_5(t *testing.T) {
	p := carnets(t, 4096)
	mixed := certFor(9, 1, 3, 1000000000) // the anchor of purse 1, the price of purse 4
	spoilt := certFor(9, 3, 3, 250)
	spoilt.Anchor[31] ^= 1
	p.unwritten("Take", func() {
		for name, x := range map[string]api.Cert{
			"rides":              certFor(9, 3, 2, 250),
			"price":              certFor(9, 3, 3, 251),
			"anchor":             ring.SealCert(seed(0), spoilt),
			"a chain to come":    certFor(9, 5, 3, 250),
			"chain 0":            certFor(9, 0, 3, 250),
			"mixed":              mixed,
			"all is another one": certFor(9, 7, 7, 7),
			"of a serial that is there": ring.SealCert(seed(0), api.Cert{
				Serial: 5, Rides: 3, Price: 250, Anchor: value(node, 9, 3, 0)}),
			"another wallet's chain": ring.SealCert(seed(0), api.Cert{
				Serial: 9, Rides: 3, Price: 250, Anchor: value(3, 3, 3, 0)}),
			"the value behind the anchor": ring.SealCert(seed(0), api.Cert{
				Serial: 9, Rides: 3, Price: 250, Anchor: value(node, 3, 3, 1)}),
		} {
			p.wantErr(name, p.takeCert(x), api.ErrPurse)
		}
	})
	p.wantNums("the one that fits", p.takeCert(certFor(9, 3, 3, 250)), 9, 3)
}

// TestCertsP18_5: the same certificate twice, another one for a purse that has one, a serial that another purse has.
func TestCertsP18_5(t *testing.T) {
	p := carnets(t, 4096)
	for range 2 {
		p.unwritten("Take", func() {
			p.wantNums("the same", p.takeCert(certFor(5, 1, 3, 250)), 5, 1)
			p.wantNums("the same", p.takeCert(certFor(6, 4, 3, 1000000000)), 6, 4)
			p.wantErr("another serial", p.takeCert(certFor(1, 1, 3, 250)), api.ErrOther)
			p.wantErr("another purse's serial, for one that has one", p.takeCert(certFor(6, 1, 3, 250)), api.ErrOther)
			p.wantErr("an earlier purse's serial", p.takeCert(certFor(5, 3, 3, 250)), api.ErrOther)
			p.wantErr("a later purse's serial", p.takeCert(certFor(6, 3, 3, 250)), api.ErrOther)
		})
		p.ride(5, 1)
		p.takeReceipt(receiptFor(5, 2, 500))
	}
	p.wantNums("the greatest serial", p.takeCert(certFor(65535, 3, 3, 250)), 65535, 3)
	p.wantNums("Ride", p.ride(65535, 1), 65535, 1)
}

// TestTwinsP18_5: of purses with the same rides and price the chain tells which one is meant, in whatever order.
func TestTwinsP18_5(t *testing.T) {
	p := begin(t, 4096)
	for range 4 {
		p.buy(2, 5)
	}
	for _, k := range []int{3, 1, 4, 2} {
		p.wantNums("Take", p.takeCert(certFor(10+k, k, 2, 5)), int64(10+k), int64(k))
		p.wantNums("Ride", p.ride(10+k, 1), int64(10+k), 1)
		p.wantErr("a twin's serial", p.takeCert(certFor(10+k, k%4+1, 2, 5)), api.ErrOther)
	}
	p.wantNums("Ride", p.ride(11, 1), 11, 2)
	p.takeReceipt(receiptFor(12, 1, 5))
	p.wantNums("a twin's rides stay", p.ride(13, 1), 13, 2)
	p.wantErr("the refunded one's do not", p.ride(12, 1), api.ErrSpent)
}

// TestReceiptsP18_5: receipts at the ends of their ranges, the same one twice, another one, and those of no carnet.
func TestReceiptsP18_5(t *testing.T) {
	for _, x := range []api.Receipt{receiptFor(5, 0, 0), receiptFor(5, 4096, math.MaxInt64), receiptFor(5, 2, 500)} {
		p := carnets(t, 4096)
		p.ride(5, 1)
		p.unwritten("Take", func() {
			for _, serial := range []int{1, 3, 7, 65535} {
				p.wantErr("a receipt of no carnet", p.takeReceipt(receiptFor(serial, 2, 500)), api.ErrPurse)
			}
		})
		p.wantNums("a receipt", p.takeReceipt(x), int64(x.Rides), x.Amount)
		p.unwritten("Take", func() {
			p.wantNums("the same", p.takeReceipt(x), int64(x.Rides), x.Amount)
			p.wantErr("other rides", p.takeReceipt(receiptFor(5, (x.Rides+1)%4097, x.Amount)), api.ErrOther)
			p.wantErr("another amount", p.takeReceipt(receiptFor(5, x.Rides, x.Amount^1)), api.ErrOther)
			p.wantErr("Ride behind it", p.ride(5, 1), api.ErrSpent)
			p.wantNums("its certificate", p.takeCert(certFor(5, 1, 3, 250)), 5, 1)
		})
		p.wantNums("another carnet's ride", p.ride(6, 1), 6, 1)
		p.wantNums("another carnet's receipt", p.takeReceipt(receiptFor(6, x.Rides, x.Amount)), int64(x.Rides), x.Amount)
	}
}

// TestReceiptAheadP18_5: a receipt finds no purse as long as no certificate has come.
func TestReceiptAheadP18_5(t *testing.T) {
	p := begin(t, 4096)
	p.wantErr("no purse at all", p.takeReceipt(receiptFor(5, 1, 1)), api.ErrPurse)
	p.wantErr("no purse at all", p.takeCert(certFor(5, 1, 3, 250)), api.ErrPurse)
	p.buy(3, 250)
	p.wantErr("no certificate", p.takeReceipt(receiptFor(5, 1, 1)), api.ErrPurse)
	p.takeCert(certFor(5, 1, 3, 250))
	p.wantNums("a certificate", p.takeReceipt(receiptFor(5, 1, 1)), 1, 1)
}

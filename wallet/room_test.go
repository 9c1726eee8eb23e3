package wallet_test

import (
	"slices"
	"testing"

	"farebox/api"
	"farebox/flash"
)

// TestCompactP18_2: where the bank is full, a snapshot of the state ahead of the record takes the records' place; byte for byte.
func TestCompactP18_2(t *testing.T) {
	// 22 bytes and the snapshot's for the header, 23 for an order.
	p := begin(t, 23+2*23)
	p.wantNums("Buy", p.buy(3, 250), 1)
	p.wantNums("Buy", p.buy(1, 0), 2)
	full := bank(1, "\x00", orderOf(3, 250), orderOf(1, 0))
	wantFiles(t, "P18.2: full", p.f, full, nil)
	p.unwritten("Buy", func() { p.wantErr("36 bytes of purses and an order", p.buy(2, 5), api.ErrRoom) })
	wantFiles(t, "P18.2: refused", p.f, full, nil)

	p = begin(t, 22+37+23)
	p.buy(3, 250)
	p.buy(1, 0)
	writes := p.f.Writes()
	p.wantNums("Buy", p.buy(2, 5), 3)
	if p.f.Writes() != writes+2 {
		t.Errorf("P18.2: Buy has made %d writes", p.f.Writes()-writes)
	}
	two := snapshotOf(purse(3, 250, "", 0, ""), purse(1, 0, "", 0, ""))
	wantFiles(t, "P18.2: compacted", p.f, bank(1, "\x00", orderOf(3, 250), orderOf(1, 0)), bank(2, two, orderOf(2, 5)))
	p.unwritten("Buy", func() { p.wantErr("one more", p.buy(2, 5), api.ErrRoom) })
}

// TestLongLifeP18_2: a carnet's rides in a small flash, over many compactions.
func TestLongLifeP18_2(t *testing.T) {
	p := begin(t, 300)
	p.buy(200, 7)
	p.takeCert(certFor(3, 1, 200, 7))
	for index := int64(1); index <= 200; index++ {
		p.wantNums("Ride", p.ride(3, 1), 3, index)
	}
	if p.m.epoch < 10 {
		t.Errorf("%d epochs alone", p.m.epoch)
	}
	p.wantErr("Ride", p.ride(3, 1), api.ErrSpent)
	p.w = open(t, p.f)
	p.wantErr("Ride", p.ride(3, 1), api.ErrSpent)
}

// filled is a flash that has room for so many bytes behind a snapshot that tells purse 1 with C (serial 5), purse 2 without a certificate, and purse 3 with E (serial 7).
func filled(t *testing.T, room int) *pair {
	t.Helper()
	told := snapshotOf(
		purse(3, 250, tell(certFor(5, 1, 3, 250)), 0, ""),
		purse(2, 5, "", 0, ""),
		purse(60, 1, tell(certFor(7, 3, 60, 1)), 2, ""),
	)
	return resume(t, 22+len(told)+room, 4, told)
}

// calls are one of each kind that lays a record down, and how many bytes its frame has.
var calls = []struct {
	name string
	more int
	call func(p *pair) api.Answer
}{
	{"Buy", 23, func(p *pair) api.Answer { return p.buy(4, 4) }},
	{"Ride", 15, func(p *pair) api.Answer { return p.ride(7, 1) }},
	{"Take of a certificate", 131, func(p *pair) api.Answer { return p.takeCert(certFor(6, 2, 2, 5)) }},
	{"Take of a receipt", 95, func(p *pair) api.Answer { return p.takeReceipt(receiptFor(5, 1, 2)) }},
}

// TestNoRoomP18_2: each call with just room enough, and with a byte less: then nothing fits any more, nothing is written, and the wallet goes on with what does fit.
func TestNoRoomP18_2(t *testing.T) {
	for _, x := range calls {
		p := filled(t, x.more)
		p.wantErr(x.name+", room enough", x.call(p), api.OK)
		p = filled(t, x.more-1)
		for range 2 {
			p.unwritten(x.name, func() { p.wantErr(x.name+", a byte less", x.call(p), api.ErrRoom) })
		}
		if x.more-1 >= 15 {
			p.wantNums("a Ride has room yet", p.ride(7, 2), 7, 3)
		}
	}
}

// TestRefusedAheadP18_2: where nothing fits, what is refused for another reason is refused for that one, and what needs no record is answered.
func TestRefusedAheadP18_2(t *testing.T) {
	p := filled(t, 0)
	p.unwritten("a full flash", func() {
		p.wantErr("Buy", p.buy(0, 4), api.ErrArg)
		p.wantErr("Ride", p.ride(6, 1), api.ErrPurse)
		p.wantErr("Ride", p.ride(5, 3), api.ErrArg)
		p.wantNums("Take", p.takeCert(certFor(5, 1, 3, 250)), 5, 1)
		p.wantErr("Take", p.takeCert(certFor(6, 1, 3, 250)), api.ErrOther)
		p.wantErr("Take", p.takeReceipt(receiptFor(6, 1, 3)), api.ErrPurse)
		p.wantErr("Take", p.take(nil), api.ErrForm)
	})
}

// TestLastEpochP18_2: at the last epoch records are laid down as long as there is room; then no snapshot can take their place.
func TestLastEpochP18_2(t *testing.T) {
	for _, x := range calls {
		told := filled(t, 0).m.snapshot
		p := resume(t, 22+len(told)+23+x.more-1, lastEpoch, told)
		p.wantNums("Buy", p.buy(1, 1), 4)
		for range 2 {
			p.unwritten(x.name, func() { p.wantErr(x.name, x.call(p), api.ErrRange) })
		}
	}
	p := resume(t, 4096, lastEpoch, "\x00")
	p.wantNums("Buy", p.buy(3, 250), 1)
}

// TestLongSnapshotP18_2: a state that no frame holds: records go on as long as the bank has room, and then it is ErrRoom, also at the last epoch.
func TestLongSnapshotP18_2(t *testing.T) {
	// The greatest snapshot of purses without certificates that a header's frame holds.
	count := (api.MaxPayload - 12 - 2) / 18
	list := slices.Repeat([]string{purse(1, 0, "", 0, "")}, count)
	list[0] = purse(3, 250, tell(certFor(5, 1, 3, 250)), 0, "")
	list = list[:count-7] // the certificate takes the room of six purses and a half
	told := snapshotOf(list...)
	for _, epoch := range []uint64{2, lastEpoch} {
		size := 22 + len(told) + 8*23 + 15
		p := resume(t, size, epoch, told)
		p.wantNums("Ride", p.w.Ride(5, 1), 5, 1)
		for k := range 8 {
			p.wantNums("Buy", p.w.Buy(1, 0), int64(len(list)+k+1))
		}
		p.wantErr("Buy", p.w.Buy(1, 0), api.ErrRoom)
		p.wantErr("Ride", p.w.Ride(5, 1), api.ErrRoom)
		first, second := p.f.Files()
		if len(first) != size || len(second) != 0 || len(p.w.State().Purses) != len(list)+8 {
			t.Errorf("P18.2: %d and %d bytes, %d purses", len(first), len(second), len(p.w.State().Purses))
		}
	}
}

// TestGreatFlashP18_2: the greatest flash full of orders; it is opened again with all of them, and a snapshot of them has no room in any frame.
func TestGreatFlashP18_2(t *testing.T) {
	f := flash.New(api.MaxFlash)
	w := open(t, f)
	n := (api.MaxFlash - 23) / 23
	for k := 1; k <= n; k++ {
		if a := w.Buy(1, 0); a.Err != api.OK || a.Nums[0] != int64(k) {
			t.Fatalf("P18.3: Buy %d = %d %v", k, a.Err, a.Nums)
		}
	}
	for range 2 {
		if a := w.Buy(1, 0); a.Err != api.ErrRoom || len(w.State().Purses) != n {
			t.Fatalf("P18.2: Buy with a full flash = %d", a.Err)
		}
		w = open(t, f)
	}
	last := w.State().Purses[n-1]
	if last != (api.Purse{Chain: n, Rides: 1}) {
		t.Errorf("P18.1: the last purse is %+v", last)
	}
}

package issuer_test

import (
	"fmt"
	"testing"

	"farebox/api"
	"farebox/flash"
	"farebox/issuer"
)

// scenery is the state of the room's and the crashes' tests: serial 1 Issued, 2 Freezing with no gate there, 3 Freezing with all, and 4, of 60 rides, Freezing: its acknowledgements lay records down that take no more room in a snapshot.
func scenery() api.IssuerState {
	paid := carnet(3, 5, api.Freezing)
	paid.Refund.Acked, paid.Refund.Top = []bool{true, true, true}, 1
	long := api.Carnet{Owner: 4, Cert: sealed(api.Cert{Serial: 4, Rides: 60, Price: 1, Anchor: value(4, 60, 0)}), Status: api.Freezing}
	long.Refund = api.Refund{Serial: 4, Rides: 60, Acked: make([]bool, 3)}
	return stateOf(carnet(1, 4, api.Issued), carnet(2, 4, api.Freezing), paid, long)
}

// filler is an acknowledgement of serial 4: its frame has 123 bytes.
func filler(index int) op { return ackOf(1, 4, 4, 60, index) }

const fillerSize = 10 + 1 + 112

// changes are operations of each kind that change scenery, also behind fillers, with their records.
func changes() map[string]struct {
	o      op
	record string
} {
	second := api.Ack{Serial: 2, Gate: 2, Index: 2, Value: value(2, 3, 2)}
	return map[string]struct {
		o      op
		record string
	}{
		"an order":            {taking(5, order(9, 7)), orderRecord(5, order(9, 7))},
		"an order by nobody":  {taking(2, order(9, 7)), orderRecord(0, order(9, 7))},
		"an acknowledgement":  {taking(0, tellAck(2, second)), ackRecord(tellAck(2, second))},
		"Freeze":              {freezing(1), "\x03\x01"},
		"Pay":                 {paying(3), "\x04\x03"},
		"Revoke":              {revoking(2), "\x05\x02"},
		"Raise":               {raising(5), "\x06\x05"},
		"Raise of no carnets": {raising(1), "\x06\x01"},
	}
}

// roomy is a pair with scenery and so many bytes of room behind its snapshot.
func roomy(t *testing.T, epoch uint64, room int) *pair {
	t.Helper()
	snap := snapshot(scenery())
	return resume(t, config, 22+len(snap)+room, epoch, snap)
}

// TestRecordsP23_10: the records of each kind, byte for byte, as they stand on the flash.
func TestRecordsP23_10(t *testing.T) {
	for name, x := range changes() {
		p := roomy(t, 3, 10+len(x.record))
		p.do(x.o)
		wantFiles(t, "P23.10: "+name, p.f, bank(3, snapshot(scenery()), x.record), nil)
		p.open()
	}
	c := config
	c.Serials = 65535
	p := begin(t, c)
	p.want(raising(127), api.OK, 127)
	p.want(raising(128), api.OK, 128)
	p.want(raising(16383), api.OK, 16383)
	p.want(raising(65536), api.OK, 65536)
	wantFiles(t, "P23.10: long numbers", p.f, bank(1, blank, "\x06\x7f", "\x06\x80\x01", "\x06\xff\x7f", "\x06\x80\x80\x04"), nil)
	p.open()
}

// TestCompactP23_8: where the bank is full, a snapshot of the state ahead of the record takes the records' place, byte for byte.
func TestCompactP23_8(t *testing.T) {
	for name, x := range changes() {
		p := roomy(t, 3, 2*fillerSize)
		p.do(filler(1))
		p.do(filler(2))
		was := bank(3, snapshot(scenery()), p.m.records...)
		wantFiles(t, "P23.8: full", p.f, was, nil)
		ahead := snapshot(p.i.State())
		writes := p.f.Writes()
		if a := p.do(x.o); a.Err != api.OK || p.f.Writes() != writes+2 {
			t.Errorf("P23.8: %s = %d, by %d writes", name, a.Err, p.f.Writes()-writes)
		}
		wantFiles(t, "P23.8: "+name, p.f, was, bank(4, ahead, x.record))
		p.open()
		wantFiles(t, "P23.9: "+name, p.f, nil, bank(4, ahead, x.record))
	}
}

// TestRoomP23_8: each kind of operation with just room enough and with a byte less: then it is refused, nothing is written, and nothing has changed.
func TestRoomP23_8(t *testing.T) {
	for name, x := range changes() {
		p := roomy(t, 1, 10+len(x.record))
		if a := p.do(x.o); a.Err != api.OK {
			t.Errorf("P23.8: %s, room enough: %d", name, a.Err)
		}
		p = roomy(t, 1, 10+len(x.record)-1)
		for range 2 {
			if a := p.unwritten(x.o, api.ErrRoom); len(a.Out) > 0 {
				t.Errorf("P23.8: %s, a byte less: %+v", name, a)
			}
			p.open()
		}
	}
}

// TestRefusedAheadP23_8: where nothing fits, what is refused for another reason is refused for that one, and what changes nothing is answered; an ErrRoom is not the end.
func TestRefusedAheadP23_8(t *testing.T) {
	p := roomy(t, 1, 12)
	p.unwritten(taking(4, order(9, 7)), api.ErrRoom)
	p.unwritten(taking(4, order(1, 10)), api.OK, 1)
	p.unwritten(taking(4, order(1, 11)), api.ErrAnchor)
	p.unwritten(ack(1, 1, 1, 1), api.ErrStatus)
	p.unwritten(ack(1, 2, 2, 1), api.ErrRoom)
	p.unwritten(ack(1, 3, 3, 1), api.OK, 3, 1, 0)
	p.unwritten(freezing(2), api.OK, 2)
	p.unwritten(paying(2), api.ErrOpen)
	p.unwritten(revoking(9), api.ErrSerial)
	p.unwritten(raising(8), api.ErrArg)
	p.want(freezing(1), api.OK, 1)
	p.unwritten(paying(3), api.ErrRoom)
	p.unwritten(freezing(1), api.OK, 1)
}

// TestLastEpochP23_8: at the last epoch records are laid down as long as there is room; then no snapshot can take their place, and that is ErrRoom too.
func TestLastEpochP23_8(t *testing.T) {
	for _, x := range changes() {
		p := roomy(t, lastEpoch, fillerSize+10+len(x.record)-1)
		p.do(filler(1))
		p.unwritten(x.o, api.ErrRoom)
		p.unwritten(x.o, api.ErrRoom)
		p.open()
		p = roomy(t, lastEpoch-1, fillerSize+10+len(x.record)-1)
		p.do(filler(1))
		if a := p.do(x.o); a.Err != api.OK || p.m.epoch != lastEpoch {
			t.Errorf("P23.8: at the last epoch but one: %+v", a)
		}
	}
}

// TestLongSnapshotP23_8: a snapshot that no frame can hold is ErrRoom, also where the bank could hold it.
func TestLongSnapshotP23_8(t *testing.T) {
	t.Parallel()
	s := scenery()
	for k := len(s.Leaves); k < 8070; k++ {
		s.Leaves = append(s.Leaves, issuer.StandIn(k))
	}
	snap := snapshot(s)
	p := resume(t, config, 22+len(snap)+60*fillerSize, 1, snap)
	for n := 1; n <= 60; n++ {
		p.do(filler(n))
	}
	p.logUpTo(8200)
	if now := len(snapshot(p.m.s)); p.m.room() > 0 || now <= api.MaxPayload-12 || 22+now+100 > p.m.size {
		t.Fatalf("the scene is not the one that is meant: room %d, a snapshot of %d in %d", p.m.room(), now, p.m.size)
	}
	for _, x := range changes() {
		p.unwritten(x.o, api.ErrRoom)
	}
	p.unwritten(freezing(2), api.OK, 2)
}

// TestSmallestP23_8: the smallest flash that a configuration may have, filled with orders; opened again it has what was sold.
func TestSmallestP23_8(t *testing.T) {
	c := config
	c.Flash, c.Serials = 512, 60
	p := begin(t, c)
	met := map[api.Errno]int{}
	for k := 1; k <= 20; k++ {
		met[p.do(taking(4, order(k, int64(k)))).Err]++
	}
	if met[api.OK] < 3 || met[api.ErrRoom] < 3 || len(met) != 2 {
		t.Errorf("P23.8: orders in banks of 512 bytes: %v", met)
	}
	p.open()
	p.do(raising(2))
	p.do(raising(3))
}

// TestLongLifeP23_8: many operations on a small flash, over many epochs.
func TestLongLifeP23_8(t *testing.T) {
	p := roomy(t, 1, 3*fillerSize)
	for index := 1; index <= 60; index++ {
		p.want(filler(index), api.OK, 4, int64(index), 2)
		p.unwritten(filler(index), api.OK, 4, int64(index), 2)
		if index%7 == 0 {
			p.open()
		}
	}
	if p.m.epoch < 10 {
		t.Errorf("%d epochs alone", p.m.epoch)
	}
}

// TestManyCarnetsP23_10: lists whose numbers take two bytes, and a flash of the greatest size.
func TestManyCarnetsP23_10(t *testing.T) {
	var carnets []api.Carnet
	for serial := 1; serial <= 300; serial++ {
		c := api.Carnet{Owner: serial % 25, Status: 1 + serial%4, Paid: int64(serial), Cert: api.Cert{Serial: serial, Rides: 1 + serial%4096, Price: int64(serial) * 3333333, Anchor: api.Hash{byte(serial), byte(serial >> 8)}, Sig: api.Sig{9, byte(serial)}}}
		for gate := range serial % 17 {
			c.Refund.Acked = append(c.Refund.Acked, (serial>>gate)&1 == 1)
			c.Refund.Serial, c.Refund.Rides = serial, c.Cert.Rides
		}
		c.Refund.Top = serial * 13
		carnets = append(carnets, c)
	}
	carnets[3] = scenery().Carnets[3] // the one of the fillers
	s := stateOf(carnets...)
	s.Book.Net = [3]int64{1 << 60, -1 << 60, 0}
	c := config
	c.Serials, c.Flash = 65535, api.MaxFlash
	snap := snapshot(s)
	p := resume(t, c, 22+len(snap)+200, 5, snap)
	for n := 1; n <= 4; n++ {
		p.want(filler(n), api.OK, 4, int64(n), 2)
	}
	if p.m.epoch != 8 {
		t.Errorf("P23.8: 300 carnets are at epoch %d", p.m.epoch)
	}
	p.want(taking(4, order(9, 7)), api.OK, 301)
	p.open()
	first, second := p.f.Files()
	p.f = flash.Load(api.MaxFlash, first, second)
	p.m.size = api.MaxFlash
	p.open()
	for n := 1; n <= 300; n += 7 {
		p.do(revoking(n))
		p.do(freezing(n))
		p.do(paying(n))
	}
	p.open()
}

// TestOtherGatesP23_4: the number of gates is the configuration's: of one gate and of sixteen.
func TestOtherGatesP23_4(t *testing.T) {
	for _, gates := range []int{1, 16} {
		c := config
		c.Gates, c.Wallets = gates, 8
		keys := keysOf(c)
		i, err := issuer.Open(c, keys, flash.New(c.Flash))
		if err != api.OK {
			t.Fatalf("P23.9: Open = %d", err)
		}
		for _, from := range []int{gates, gates + 1, gates + 8, gates + 9} {
			to := from
			if from == gates || from == gates+9 {
				to = -1
			}
			if a := i.Take(from, []byte(order(from, 1))); a.Err != api.OK || a.Out[0].To != to {
				t.Errorf("P23.2: an order from %d with %d gates: %+v", from, gates, a)
			}
		}
		for what, a := range map[string]api.Answer{"Freeze": i.Freeze(1), "Revoke": i.Revoke(2), "Raise": i.Raise(1)} {
			if a.Err != api.OK || len(a.Out) != gates {
				t.Errorf("%s with %d gates: %+v", what, gates, a)
			}
			for n, m := range a.Out {
				if m.To != n+1 || fmt.Sprint(m.Body) != fmt.Sprint(a.Out[0].Body) {
					t.Errorf("%s with %d gates: message %d: %+v", what, gates, n, m)
				}
			}
		}
		if c := i.State().Carnets[0]; len(c.Refund.Acked) != gates {
			t.Errorf("P23.4: the Refund with %d gates: %+v", gates, c.Refund)
		}
	}
}

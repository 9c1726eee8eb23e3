package gate_test

import (
	"testing"

	"farebox/api"
	"farebox/flash"
	"farebox/gate"
)

// long is a carnet of many rides.
func long() api.Cert { return certFor(7, 60, 1) }

// TestCompactP19_7: where the bank is full, a snapshot of the state ahead of the record takes the records' place; byte for byte.
func TestCompactP19_7(t *testing.T) {
	c := long()
	// 22 bytes and the snapshot's for the header, 165 for a ride; a row has 156 in a snapshot.
	p := begin(t, 32+2*165)
	p.ticket(c, 1)
	p.ticket(c, 3)
	full := bank(1, blank, rideOf(at(c, 1)), rideOf(at(c, 3)))
	wantFiles(t, "P19.7: full", p.f, full, nil)
	writes := p.f.Writes()
	p.wantNums("a third ride", p.ticket(c, 4), 7, 4)
	if p.f.Writes() != writes+2 {
		t.Errorf("P19.7: Take has made %d writes", p.f.Writes()-writes)
	}
	wantFiles(t, "P19.7: compacted", p.f, full, bank(2, snapshotOf(2, "", tellEntry(at(c, 3))), rideOf(at(c, 4))))
	p.wantNums("a fourth", p.ticket(c, 60), 7, 60)
	wantFiles(t, "P19.7: compacted again", p.f, bank(3, snapshotOf(3, "", tellEntry(at(c, 4))), rideOf(at(c, 60))), bank(2, snapshotOf(2, "", tellEntry(at(c, 3))), rideOf(at(c, 4))))
	p.wantErr("a freeze has no room beside the row", p.freeze(c), api.ErrRoom)

	p = begin(t, 32+165+156-1) // a byte less than the header with a row, and a ride
	p.ticket(c, 1)
	was, were := p.f.Files()
	p.unwritten("a second ride", func() { p.wantErr("a second ride", p.ticket(c, 2), api.ErrRoom) })
	wantFiles(t, "P19.7: refused", p.f, was, were)
	p.wantNums("a floor has room yet", p.floor(2), 2)
}

// TestLongLifeP19_7: a carnet's rides on a small flash, over many compactions.
func TestLongLifeP19_7(t *testing.T) {
	c := certFor(7, 200, 1)
	p := begin(t, 800)
	p.floor(1)
	for index := 1; index <= 200; index++ {
		p.wantNums("a ride", p.ticket(c, index), 7, int64(index))
		p.wantErr("once more", p.ticket(c, index), api.ErrIndex)
	}
	if p.m.epoch < 10 {
		t.Errorf("%d epochs alone", p.m.epoch)
	}
	p.g = open(t, p.f)
	p.wantAll("P19.10: opened again")
	p.wantErr("once more", p.ticket(c, 200), api.ErrIndex)
}

// filled is a flash that has room for so many bytes behind a snapshot with a floor and three rows: 3 and 5 at index 1, and the long carnet, 7, at 2.
func filled(t *testing.T, room int) *pair {
	t.Helper()
	k := newKnown(at(cert(3), 1), at(cert(5), 1), at(long(), 2)).raised(floorAt(2))
	k.accepted = 4
	return resume(t, 22+len(snapshot(k))+room, 4, snapshot(k))
}

// change is a message that changes a gate that filled has made, also behind rides of the long carnet below 50.
type change struct {
	name   string
	body   string
	record string
}

func changes() []change {
	return []change{
		{"a ticket", tellTicket(ticketOf(long(), 50)), rideOf(at(long(), 50))},
		{"an entry", tellEntry(at(cert(3), 4)), entryOf(at(cert(3), 4))},
		{"an entry of a new row", tellEntry(revoked(frozen(at(cert(4), 2)))), entryOf(revoked(frozen(at(cert(4), 2))))},
		{"a freeze", tellFreeze(freezeOf(cert(5))), entryOf(frozen(at(cert(5), 1)))},
		{"a revocation", tellRevocation(revocationOf(cert(3))), entryOf(revoked(at(cert(3), 1)))},
		{"a floor", tellFloor(floorAt(5)), floorOf(floorAt(5))},
	}
}

// TestNoRoomP19_7: each kind of message with just room enough, and with a byte less: then nothing fits any more, nothing is written, and nothing has changed.
func TestNoRoomP19_7(t *testing.T) {
	for _, x := range changes() {
		more := 10 + len(x.record)
		p := filled(t, more)
		p.wantErr(x.name+", room enough", p.take(x.body), api.OK)
		p = filled(t, more-1)
		before := p.g.State()
		for range 2 {
			p.unwritten(x.name, func() {
				if a := p.take(x.body); !sameAnswer(a, refusal(api.ErrRoom)) {
					t.Errorf("P19.7: %s, a byte less: %+v", x.name, a)
				}
			})
		}
		wantState(t, "P19.7: "+x.name, p.g.State(), before)
		if more-1 >= 165 {
			p.wantNums("a ride has room yet", p.ticket(long(), 3), 7, 3)
		}
	}
}

// TestRefusedAheadP19_7: where nothing fits, what is refused for another reason is refused for that one, and what needs no record is answered.
func TestRefusedAheadP19_7(t *testing.T) {
	p := filled(t, 0)
	p.unwritten("a full flash", func() {
		p.wantErr("a ticket", p.ticket(cert(3), 1), api.ErrIndex)
		p.wantErr("an entry", p.entry(at(otherCert(cert(3)), 1)), api.ErrOther)
		p.wantNums("an entry", p.entry(at(cert(3), 1)), 3, 1, 0)
		p.wantErr("a freeze", p.freeze(cert(1)), api.ErrFloor)
		p.wantErr("a revocation", p.revoke(otherCert(cert(5))), api.ErrOther)
		p.wantNums("a floor", p.floor(2), 2)
		p.wantErr("a floor", p.floor(1), api.ErrFloor)
		p.wantErr("no message", p.take(""), api.ErrForm)
	})
	k := newKnown(frozen(at(cert(3), 1)), revoked(at(cert(4), 1)))
	p = resume(t, 22+len(snapshot(k)), 2, snapshot(k))
	p.unwritten("a full flash", func() {
		if a := p.freeze(cert(3)); len(a.Out) != 1 {
			t.Errorf("P19.7: a freeze that is there already: %+v", a)
		}
		p.wantNums("a revocation that is there", p.revoke(cert(4)), 4)
	})
}

// TestLastEpochP19_7: at the last epoch records are laid down as long as there is room; then no snapshot can take their place.
func TestLastEpochP19_7(t *testing.T) {
	for _, x := range changes() {
		snap := filled(t, 0).m.snapshot
		p := resume(t, 22+len(snap)+165+10+len(x.record)-1, lastEpoch, snap)
		p.wantNums("a ride", p.ticket(long(), 3), 7, 3)
		for range 2 {
			p.unwritten(x.name, func() { p.wantErr(x.name, p.take(x.body), api.ErrRoom) })
		}
		p = resume(t, 22+len(snap)+165+10+len(x.record)-1, lastEpoch-1, snap)
		p.ticket(long(), 3)
		p.wantErr(x.name, p.take(x.body), api.OK)
	}
}

// TestGreatTableP19_7: a table of as many rows as there may be, on a flash that holds its snapshot: it is compacted, and opened again.
func TestGreatTableP19_7(t *testing.T) {
	c := config
	c.Rows = 256
	rows := manyRows(1001, 255)
	f := flash.Load(api.MaxFlash, bank(1, snapshotOf(9, "", rows...)), nil)
	g, err := gate.Open(c, keys(), number, f)
	if err != api.OK {
		t.Fatalf("P19.6: Open = %d", err)
	}
	take := func(body string, want api.Errno) {
		t.Helper()
		if a := g.Take([]byte(body)); a.Err != want {
			t.Fatalf("P19.7: Take = %d, want %d", a.Err, want)
		}
	}
	take(tellTicket(ticketOf(cert(3), 1)), api.OK)
	take(tellTicket(ticketOf(cert(4), 1)), api.ErrRows)
	take(tellFreeze(freezeOf(cert(4))), api.ErrRows)
	if a := g.Send(1); len(a.Out) != 256 || a.Nums[0] != 256 {
		t.Errorf("P19.8: Send of 256 rows: %v", a.Nums)
	}
	want := g.State()
	first, _ := f.Files()
	small := flash.Load(len(first)+300, first, nil)
	for index := range 4 {
		if index > 0 {
			g, err = gate.Open(c, keys(), number, small)
			if err != api.OK {
				t.Fatalf("P19.6: Open = %d", err)
			}
			take(tellTicket(ticketOf(cert(3), index+1)), api.OK)
			want.Accepted++
			want.Rows[0] = at(cert(3), index+1)
		}
		wantState(t, "256 rows", g.State(), want)
	}
	if _, second := small.Files(); len(second) < 50000 {
		t.Errorf("P19.7: there was no compaction: %d bytes", len(second))
	}
}

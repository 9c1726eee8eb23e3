package gate_test

import (
	"strings"
	"testing"

	"farebox/api"
	"farebox/ring"
	"farebox/terms"
)

// messages are the five kinds that a gate takes, each one that it takes at once.
func messages() map[string]string {
	c := cert(3)
	return map[string]string{
		"a ticket":     tellTicket(ticketOf(c, 2)),
		"an entry":     tellEntry(revoked(frozen(at(c, 2)))),
		"a freeze":     tellFreeze(freezeOf(c)),
		"a revocation": tellRevocation(revocationOf(c)),
		"a floor":      tellFloor(floorAt(3)),
	}
}

// TestNoMessageP19_7: bytes that are no message, each kind that is none of the five, each of the five with bytes behind it and cut off.
func TestNoMessageP19_7(t *testing.T) {
	c := cert(3)
	p := begin(t, 4096)
	p.ticket(cert(4), 1)
	refuses := func(what, body string, want api.Errno) {
		t.Helper()
		p.unwritten(what, func() { p.wantErr(what, p.take(body), want) })
	}
	head := "FB\x01"
	for what, body := range map[string]string{
		"no bytes": "", "a byte": "F", "a head too short": head, "another version": "FB\x02\x02" + strings.Repeat("\x00", 148),
		"no head": strings.Repeat("\x00", 152), "domain 0": head + "\x00", "a head alone": head + "\x02",
	} {
		refuses(what, body, api.ErrForm)
	}
	for what, body := range map[string]string{
		"domain 11": head + "\x0b", "domain 255": head + "\xff", "domain 66, and more": head + "\x42" + strings.Repeat("x", 148),
		"a certificate":      told(terms.EncodeCert, c),
		"an acknowledgement": string(ackOf(3, 0, c.Anchor)),
		"a receipt":          told(terms.EncodeReceipt, seal(api.Receipt{Serial: 3, Rides: 1}, ring.SealReceipt)),
		"an order":           told(terms.EncodeOrder, api.Order{Rides: 5, Anchor: c.Anchor}),
		"a head of the log":  told(terms.EncodeHead, seal(api.Head{Size: 1}, ring.SealHead)),
		"a short order":      head + "\x09",
	} {
		refuses(what, body, api.ErrDomain)
	}
	for what, body := range messages() {
		refuses(what+" with a byte behind it", body+"\x00", api.ErrForm)
		refuses(what+", twice", body+body, api.ErrForm)
		refuses(what+", filled up to 1024 bytes", body+strings.Repeat("\x00", 1024-len(body)), api.ErrForm)
		refuses(what+", filled up to 1025 bytes", body+strings.Repeat("\x00", 1025-len(body)), api.ErrLong)
		for n := 4; n < len(body); n += 7 {
			refuses(what+", cut off", body[:n], api.ErrForm)
		}
		refuses(what+" but a byte", body[:len(body)-1], api.ErrForm)
	}
	refuses("2000 bytes", strings.Repeat("\x00", 2000), api.ErrLong)
	refuses("1025 bytes of a domain that is none of the five", head+"\x09"+strings.Repeat("\x00", 1021), api.ErrLong)
}

// TestOutOfRangeP19_7: what is out of range has no message: it is refused as bytes that are none.
func TestOutOfRangeP19_7(t *testing.T) {
	p := begin(t, 4096)
	for what, body := range messages() {
		for _, at := range []int{4, 8, 12, 116} { // a serial or floor, rides, the price's high bytes, an index or a signature
			if at+4 > len(body) || strings.HasSuffix(what, "floor") && at > 4 || at == 116 && !strings.HasSuffix(what, "ticket") && !strings.HasSuffix(what, "entry") {
				continue
			}
			p.wantErr(what, p.take(body[:at]+"\xff\xff\xff\xff"+body[at+4:]), api.ErrForm)
		}
	}
}

// TestTicketP19_7: rides and their refusals; a ride that is refused writes nothing.
func TestTicketP19_7(t *testing.T) {
	c := cert(3)
	p := begin(t, 4096)
	p.wantNums("a ticket", p.ticket(c, 2), 3, 2)
	p.unwritten("tickets that are refused", func() {
		p.wantErr("once more", p.ticket(c, 2), api.ErrIndex)
		p.wantErr("one below", p.ticket(c, 1), api.ErrIndex)
		off := ticketOf(c, 3)
		off.Value[5] ^= 1
		p.wantErr("off the chain", p.take(tellTicket(off)), api.ErrChain)
		off.Cert = turned(c)
		p.wantErr("unsigned", p.take(tellTicket(off)), api.ErrSign)
		p.wantErr("another certificate", p.ticket(otherCert(c), 3), api.ErrOther)
	})
	p.wantNums("one above", p.ticket(c, 3), 3, 3)
	p.wantNums("the last", p.ticket(c, 5), 3, 5)
	p.freeze(cert(4))
	p.revoke(cert(5))
	p.unwritten("tickets of what is retired", func() {
		p.wantErr("frozen", p.ticket(cert(4), 1), api.ErrFrozen)
		p.wantErr("revoked", p.ticket(cert(5), 1), api.ErrGone)
	})
	p.wantNums("a fourth row", p.ticket(cert(1), 5), 1, 5)
	p.unwritten("a fifth row", func() { p.wantErr("a fifth row", p.ticket(cert(2), 5), api.ErrRows) })
	p.wantNums("a floor", p.floor(2), 2)
	p.unwritten("below the floor", func() { p.wantErr("below the floor", p.ticket(cert(1), 5), api.ErrFloor) })
	p.wantNums("there is room again", p.ticket(cert(2), 5), 2, 5)
	if got := p.g.State().Accepted; got != 5 {
		t.Errorf("P19.7: %d accepted", got)
	}
}

// TestEntryP19_7: an entry that changes something, and one that changes nothing: then nothing is written.
func TestEntryP19_7(t *testing.T) {
	c := cert(3)
	p := begin(t, 4096)
	p.wantNums("an entry", p.entry(at(c, 2)), 3, 2, 1)
	p.unwritten("nothing new", func() {
		p.wantNums("the same", p.entry(at(c, 2)), 3, 2, 0)
		p.wantNums("an earlier one", p.entry(at(c, 1)), 3, 2, 0)
		p.wantNums("the anchor", p.entry(at(c, 0)), 3, 2, 0)
		p.wantErr("another certificate", p.entry(at(otherCert(c), 5)), api.ErrOther)
		off := at(c, 4)
		off.Value[0]++
		p.wantErr("off the chain", p.entry(off), api.ErrChain)
		bad := frozen(at(c, 4))
		bad.Freeze[9] ^= 1
		p.wantErr("unsigned", p.entry(bad), api.ErrSign)
	})
	p.wantNums("an earlier one, frozen", p.entry(frozen(at(c, 1))), 3, 2, 1)
	p.wantNums("a later one, revoked", p.entry(revoked(at(c, 4))), 3, 4, 1)
	p.wantNums("all of it", p.entry(revoked(frozen(at(c, 5)))), 3, 5, 1)
	p.unwritten("all of it once more", func() { p.wantNums("once more", p.entry(revoked(frozen(at(c, 5)))), 3, 5, 0) })
	p.wantNums("index 0 of another", p.entry(at(cert(8), 0)), 8, 0, 1)
	p.wantNums("a third", p.entry(at(cert(7), 1)), 7, 1, 1)
	p.wantNums("a fourth", p.entry(at(cert(2), 1)), 2, 1, 1)
	p.wantErr("a fifth", p.entry(at(cert(5), 1)), api.ErrRows)
	p.floor(3)
	p.wantErr("below the floor", p.entry(at(cert(2), 1)), api.ErrFloor)
	if got := p.g.State().Accepted; got != 0 {
		t.Errorf("P19.7: an entry is counted as a ride: %d", got)
	}
}

// TestFreezeP19_7: a freeze is acknowledged by the row as it stands behind it, also where nothing changed; what is acknowledged stands on the flash.
func TestFreezeP19_7(t *testing.T) {
	c := cert(3)
	p := begin(t, 4096)
	acked := func(what string, a api.Answer, serial, index int) {
		t.Helper()
		p.wantNums(what, a, int64(serial), int64(index))
		if len(a.Out) != 1 || a.Out[0].From != number || a.Out[0].To != 0 || a.Out[0].ID != 0 {
			t.Fatalf("P19.7: %s sends %+v", what, a.Out)
		}
		ack, err := terms.DecodeAck(a.Out[0].Body)
		want := api.Ack{Serial: serial, Gate: number, Index: index, Value: value(serial, 5, index), Sig: ack.Sig}
		if err != api.OK || ack != want || !ring.CheckAck(keys(), ack) {
			t.Errorf("P19.7: %s: the acknowledgement is %+v, %d", what, ack, err)
		}
		if e, there := p.m.rows[serial]; !there || !e.Frozen || e.Index != index {
			t.Errorf("P19.7: %s: the flash holds %+v", what, e)
		}
	}
	acked("a carnet that nobody rode", p.freeze(c), 3, 0)
	p.unwritten("once more", func() { acked("once more", p.freeze(c), 3, 0) })
	p.wantErr("a ride", p.ticket(c, 1), api.ErrFrozen)
	p.entry(at(c, 3))
	p.unwritten("behind an entry", func() { acked("behind an entry", p.freeze(c), 3, 3) })
	p.ticket(cert(4), 5)
	acked("a carnet that was ridden out", p.freeze(cert(4)), 4, 5)
	p.revoke(cert(5))
	acked("a carnet that is revoked", p.freeze(cert(5)), 5, 0)
	p.unwritten("refusals", func() {
		bad := freezeOf(cert(6))
		bad.Sig[1] ^= 1
		p.wantErr("unsigned", p.take(tellFreeze(bad)), api.ErrSign)
		p.wantErr("another certificate", p.freeze(otherCert(c)), api.ErrOther)
	})
	p.freeze(cert(6))
	p.unwritten("no row is left", func() { p.wantErr("no row is left", p.freeze(cert(7)), api.ErrRows) })
	p.floor(4)
	p.unwritten("below the floor", func() { p.wantErr("below the floor", p.freeze(c), api.ErrFloor) })
}

// TestRevocationP19_7: revocations, once and again.
func TestRevocationP19_7(t *testing.T) {
	c := cert(3)
	p := begin(t, 4096)
	p.ticket(c, 2)
	p.wantNums("a revocation", p.revoke(c), 3)
	p.unwritten("once more", func() {
		p.wantNums("once more", p.revoke(c), 3)
		p.wantErr("a ride", p.ticket(c, 3), api.ErrGone)
		p.wantErr("another certificate", p.revoke(otherCert(c)), api.ErrOther)
		bad := revocationOf(cert(6))
		bad.Sig[1] ^= 1
		p.wantErr("unsigned", p.take(tellRevocation(bad)), api.ErrSign)
	})
	p.wantNums("a carnet that nobody rode", p.revoke(cert(9)), 9)
	p.freeze(cert(5))
	p.wantNums("a frozen one", p.revoke(cert(5)), 5)
	p.revoke(cert(1))
	p.wantErr("no row is left", p.revoke(cert(2)), api.ErrRows)
	p.floor(4)
	p.wantErr("below the floor", p.revoke(c), api.ErrFloor)
	p.wantNums("there is room again", p.revoke(cert(8)), 8)
}

// TestFloorP19_7: floors; at the floor nothing is written.
func TestFloorP19_7(t *testing.T) {
	p := begin(t, 4096)
	p.ticket(cert(3), 1)
	p.ticket(cert(4), 1)
	p.wantNums("a floor of 1", p.floor(1), 1)
	p.wantNums("one above", p.floor(2), 2)
	p.unwritten("no new floor", func() {
		p.wantNums("the same", p.floor(2), 2)
		p.wantErr("one below", p.floor(1), api.ErrFloor)
		bad := floorAt(5)
		bad.Sig[63] ^= 1
		p.wantErr("unsigned", p.take(tellFloor(bad)), api.ErrSign)
		bad = floorAt(1)
		bad.Sig[63] ^= 1
		p.wantErr("unsigned, and below", p.take(tellFloor(bad)), api.ErrSign)
	})
	p.wantNums("a floor that drops a row", p.floor(4), 4)
	if rows := p.g.State().Rows; len(rows) != 1 || rows[0] != at(cert(4), 1) {
		t.Errorf("P19.7: the rows behind it: %+v", rows)
	}
	p.wantNums("the greatest", p.floor(65536), 65536)
	if rows := p.g.State().Rows; len(rows) != 0 {
		t.Errorf("P19.7: the rows behind it: %+v", rows)
	}
}

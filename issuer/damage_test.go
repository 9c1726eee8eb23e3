package issuer_test

import (
	"slices"
	"strings"
	"testing"

	"farebox/api"
	"farebox/flash"
)

// wantRead asks what Open makes of a snapshot and records behind it, and that the model says so too.
func wantRead(t *testing.T, what string, may bool, snap string, records ...string) {
	t.Helper()
	want, ok := readState(snap)
	for _, r := range records {
		if ok {
			want, ok = playOn(want, r)
		}
	}
	if ok != may {
		t.Fatalf("%s: the model says %v", what, ok)
	}
	b := bank(3, snap, records...)
	f := flash.Load(len(b)+1, b, nil)
	if may {
		wantOpen(t, what, f, want)
	} else {
		wantRefused(t, what, config, f, api.ErrDamage)
	}
	wantFiles(t, "P23.9: "+what, f, b, nil)
}

// playOn is the state behind a record; false, if it cannot be read, is refused or changes nothing.
func playOn(s api.IssuerState, record string) (api.IssuerState, bool) {
	if record == "" {
		return s, false
	}
	a := &bytesAhead{b: record[1:]}
	var x after
	switch kind := record[0]; kind {
	case 1:
		from := a.short(0, 1<<64-1)
		if from > 100 {
			from = 0
		}
		if a.bad || len(a.b) != 48 || a.b[:4] != head(9) {
			return s, false
		}
		x = modelTake(config, s, int(from), []byte(a.b))
	case 2:
		if len(a.b) != 112 || a.b[:4] != head(5) {
			return s, false
		}
		x = modelTake(config, s, 0, []byte(a.b))
	case 3, 4, 5, 6:
		n := int(a.short(0, 1<<63-1))
		if a.bad || a.b != "" {
			return s, false
		}
		x = []op{freezing(n), paying(n), revoking(n), raising(n)}[kind-3].model(config, s)
	default:
		return s, false
	}
	return x.s, x.a.Err == api.OK && x.record != ""
}

// plain is a carnet as a snapshot tells it, all of whose numbers are in the midst of their ranges.
func plain() written {
	return written{owner: 4, rides: 300, price: 70000, anchor: strings.Repeat("a", 32), sig: strings.Repeat("s", 64), status: 2, paid: 5, acked: "\x00\x01\x00", top: 7}
}

// snapOf is a snapshot with these carnets, ahead of two leaves.
func snapOf(carnets ...string) string {
	return snapshotOf(2, api.Sig{3}, [3]int64{5, -3, -2}, carnets, []string{strings.Repeat("l", 32), strings.Repeat("m", 32)})
}

// TestRangesP23_10: each number of a snapshot at both ends of its range, and one beyond.
func TestRangesP23_10(t *testing.T) {
	for _, x := range []struct {
		what string
		set  func(x *written, n uint64)
		may  []uint64
		not  []uint64
	}{
		{"Owner", func(x *written, n uint64) { x.owner = n }, []uint64{0, 1, 24}, []uint64{25, 128, 1 << 32, 1<<63 - 1, 1 << 63, 1<<64 - 1}},
		{"Rides", func(x *written, n uint64) { x.rides = n }, []uint64{1, 2, 4096}, []uint64{0, 4097, 1<<32 + 1, 1<<63 + 1, 1<<64 - 1}},
		{"Price", func(x *written, n uint64) { x.price = n }, []uint64{0, 1, 1000000000}, []uint64{1000000001, 1 << 63, 1<<64 - 1}},
		{"Paid", func(x *written, n uint64) { x.paid = n }, []uint64{0, 1, 1<<63 - 1}, []uint64{1 << 63, 1<<64 - 1}},
		{"Top", func(x *written, n uint64) { x.top = n }, []uint64{0, 1, 300, 301, 4096}, []uint64{4097, 1<<32 + 1, 1 << 63, 1<<64 - 1}},
		{"Status", func(x *written, n uint64) { x.status = byte(n) }, []uint64{1, 2, 3, 4}, []uint64{0, 5, 127, 128, 129, 130, 255}},
		{"Acked", func(x *written, n uint64) { x.acked = strings.Repeat("\x01", int(n)) }, []uint64{0, 1, 15, 16}, []uint64{17, 18, 300}},
	} {
		for i, list := range [][]uint64{x.may, x.not} {
			for _, n := range list {
				c := plain()
				x.set(&c, n)
				wantRead(t, x.what, i == 0, snapOf(c.told()))
				wantRead(t, x.what+" of the last", i == 0, snapOf(plain().told(), c.told()))
				wantRead(t, x.what+" of the first", i == 0, snapOf(c.told(), plain().told()))
			}
		}
	}
	for _, n := range []uint64{0, 1, 65535, 65536} {
		wantRead(t, "Floor", true, snapshotOf(n, api.Sig{3}, [3]int64{}, nil, nil))
	}
	for _, n := range []uint64{65537, 1 << 32, 1 << 63, 1<<64 - 1} {
		wantRead(t, "Floor", false, snapshotOf(n, api.Sig{3}, [3]int64{}, nil, nil))
	}
	ends := []int64{-1 << 63, -1<<63 + 1, -1, 0, 1, 1<<63 - 1}
	for _, x := range ends {
		for _, y := range ends {
			wantRead(t, "nets", true, snapshotOf(0, api.Sig{}, [3]int64{x, y, x ^ y}, nil, nil))
		}
	}
	for _, flag := range []string{"\x02", "\x80", "\xff"} {
		c := plain()
		c.acked = "\x01" + flag + "\x00"
		wantRead(t, "a flag", false, snapOf(c.told()))
	}
}

// TestSnapshotsP23_10: snapshots that are cut off at each byte, with bytes behind them, with numbers that are not in their shortest form, and with lists too long.
func TestSnapshotsP23_10(t *testing.T) {
	whole := snapOf(plain().told(), plain().told())
	wantRead(t, "whole", true, whole)
	wantRead(t, "zeros", true, blank)
	for n := range len(whole) {
		wantRead(t, "cut off", false, whole[:n])
	}
	for n := range len(blank) {
		wantRead(t, "zeros, cut off", false, blank[:n])
	}
	for _, more := range []string{"\x00", "\x01", "\xff", whole} {
		wantRead(t, "bytes behind", false, whole+more)
		wantRead(t, "bytes behind zeros", false, blank+more)
	}
	wantRead(t, "a Floor in two bytes", false, "\x80\x00"+blank[1:])
	wantRead(t, "a Floor in two bytes", false, "\x82\x00"+blank[1:])
	wantRead(t, "a number of carnets in two bytes", false, blank[:89]+"\x80\x00"+"\x00")
	wantRead(t, "a number of leaves in two bytes", false, blank[:90]+"\x80\x00")
	wantRead(t, "a number beyond any", false, blank[:90]+"\xff\xff\xff\xff\xff\xff\xff\xff\xff\x02")
	c := plain().told()
	wantRead(t, "an Owner in two bytes", false, snapOf("\x84\x00"+c[1:]))
	wantRead(t, "more carnets than there are", false, snapshotOf(0, api.Sig{}, [3]int64{}, []string{c, ""}, nil))
	wantRead(t, "65536 carnets", false, blank[:89]+short(65536)+strings.Repeat(c, 3)+"\x00")
	wantRead(t, "65537 leaves", false, blank[:90]+short(65537)+strings.Repeat("l", 96))
	wantRead(t, "a carnet as a leaf", false, blank[:90]+"\x01"+c)
	wantRead(t, "a leaf of 31 bytes", false, blank[:90]+"\x01"+strings.Repeat("l", 31))
	wantRead(t, "a leaf of 33 bytes", false, blank[:90]+"\x01"+strings.Repeat("l", 33))
	wantRead(t, "a leaf", true, blank[:90]+"\x01"+strings.Repeat("l", 32))
	wantRead(t, "8000 leaves", true, blank[:90]+short(8000)+strings.Repeat("l", 32*8000))
}

// TestSnapshotByHandP23_10: one snapshot whose bytes are all written out here.
func TestSnapshotByHandP23_10(t *testing.T) {
	snap := "\x02" + strings.Repeat("f", 64) +
		"\x00\x00\x00\x00\x00\x00\x03\xe8" + "\xff\xff\xff\xff\xff\xff\xfc\x18" + "\x00\x00\x00\x00\x00\x00\x00\x00" +
		"\x02" +
		"\x04" + "\x0a" + "\xe4\x01" + strings.Repeat("A", 32) + strings.Repeat("S", 64) + "\x02" + "\x00" + "\x03\x01\x00\x01" + "\x80\x20" +
		"\x00" + "\x80\x20" + "\x80\x94\xeb\xdc\x03" + strings.Repeat("B", 32) + strings.Repeat("T", 64) + "\x03" + "\xff\xff\xff\xff\xff\xff\xff\xff\x7f" + "\x00" + "\x00" +
		"\x01" + strings.Repeat("L", 32)
	s := api.IssuerState{
		Floor: api.Floor{Floor: 2, Sig: api.Sig([]byte(strings.Repeat("f", 64)))},
		Book:  api.Book{Net: [3]int64{1000, -1000, 0}},
		Carnets: []api.Carnet{
			{Owner: 4, Cert: api.Cert{Serial: 1, Rides: 10, Price: 228, Anchor: api.Hash([]byte(strings.Repeat("A", 32))), Sig: api.Sig([]byte(strings.Repeat("S", 64)))}, Status: api.Freezing, Refund: api.Refund{Serial: 1, Rides: 10, Acked: []bool{true, false, true}, Top: 4096}},
			{Cert: api.Cert{Serial: 2, Rides: 4096, Price: 1000000000, Anchor: api.Hash([]byte(strings.Repeat("B", 32))), Sig: api.Sig([]byte(strings.Repeat("T", 64)))}, Status: api.Paid, Paid: 1<<63 - 1},
		},
		Leaves: []api.Hash{api.Hash([]byte(strings.Repeat("L", 32)))},
	}
	wantOpen(t, "by hand", flash.Load(4096, bank(1, snap), nil), s)
	// The same bytes are written again, ahead of a record that finds no room.
	p := resume(t, config, 22+len(snap)+13, 1, snap)
	p.want(raising(3), api.OK, 3)
	p.unwritten(raising(4), api.ErrRoom)
	again := resume(t, config, 22+len(snap)+12, 1, snap)
	first, _ := again.f.Files()
	again.f = flash.Load(22+len(snap)+12, append(slices.Clone(first), 1), nil) // a tail, which is left behind
	again.m.epoch = 2
	again.open()
	again.want(raising(3), api.OK, 3)
	if !strings.Contains(snapshot(s), snap) {
		t.Error("the snapshot by hand is not the model's")
	}
}

// TestRecordsP23_9: records of each kind that can be played on scenery, and those that cannot be read.
func TestRecordsP23_9(t *testing.T) {
	snap := snapshot(scenery())
	for name, x := range changes() {
		wantRead(t, name, true, snap, x.record)
		for n := range len(x.record) {
			if n == 1 || n == 2 || n > len(x.record)-3 || n%9 == 0 {
				wantRead(t, name+", cut off", false, snap, x.record[:n])
			}
		}
		wantRead(t, name+", a byte behind", false, snap, x.record+"\x00")
		for _, kind := range []byte{0, 1, 2, 3, 4, 5, 6, 7, 8, 9, 128, 255} {
			other := string([]byte{kind}) + x.record[1:]
			_, ok := playOn(scenery(), other)
			wantRead(t, name+" as another kind", ok, snap, other)
		}
		wantRead(t, name+" twice", false, snap, x.record, x.record)
		wantRead(t, "one that cannot be read behind "+name, false, snap, x.record, "?")
		wantRead(t, "one that cannot be read ahead of "+name, false, snap, "", x.record)
	}
}

// TestRefusedRecordsP23_9: records that can be read, but whose operation is refused or changes nothing.
func TestRefusedRecordsP23_9(t *testing.T) {
	snap := snapshot(scenery())
	bad := api.Ack{Serial: 2, Gate: 2, Index: 2, Value: value(2, 3, 2)}
	off := bad
	off.Value = value(2, 3, 1)
	above := bad
	above.Index = 4
	paid := api.Ack{Serial: 3, Gate: 1, Index: 1, Value: value(3, 3, 1)}
	for name, record := range map[string]string{
		"no bytes":                            "",
		"an order of an anchor that is there": orderRecord(4, order(1, 10)),
		"an order at another price":           orderRecord(4, order(1, 11)),
		"an order out of range":               orderRecord(4, tellOrder(0, 1, anchor(9))),
		"an acknowledgement as an order":      orderRecord(4, tellAck(2, bad)),
		"an order's Owner in two bytes":       "\x01\x84\x00" + order(9, 7),
		"an order's Owner beyond any":         "\x01\xff\xff\xff\xff\xff\xff\xff\xff\xff\x02" + order(9, 7),
		"an order as an acknowledgement":      ackRecord(order(9, 7)),
		"an acknowledgement of nobody's":      ackRecord(tellAck(1, bad)),
		"one off the chain":                   ackRecord(tellAck(2, off)),
		"one above the rides":                 ackRecord(tellAck(2, above)),
		"one that changes nothing":            ackRecord(tellAck(1, paid)),
		"one of an Issued carnet":             ackRecord(tellAck(1, api.Ack{Serial: 1, Gate: 1, Value: anchor(1)})),
		"one of no carnet":                    ackRecord(tellAck(1, api.Ack{Serial: 5, Gate: 1, Value: anchor(1)})),
		"Freeze of none":                      "\x03\x00",
		"Freeze of the next one":              "\x03\x05",
		"Freeze of a Freezing one":            "\x03\x02",
		"Freeze of 2^63":                      "\x03" + short(1<<63),
		"Freeze of 2^64 - 1":                  "\x03" + short(1<<64-1),
		"Freeze of 2^64 + 1":                  "\x03\x81\x80\x80\x80\x80\x80\x80\x80\x80\x02",
		"Freeze of 2^32 + 1":                  "\x03" + short(1<<32+1),
		"Freeze of 1 in two bytes":            "\x03\x81\x00",
		"Pay of an Issued one":                "\x04\x01",
		"Pay of one that is open":             "\x04\x02",
		"Pay of none":                         "\x04\x09",
		"Revoke of none":                      "\x05\x00",
		"Revoke of 2^64 - 1":                  "\x05" + short(1<<64-1),
		"Raise of 0":                          "\x06\x00",
		"Raise of 8":                          "\x06\x08",
		"Raise of 2^32 + 1":                   "\x06" + short(1<<32+1),
		"Raise of 2^64 - 1":                   "\x06" + short(1<<64-1),
		"no kind":                             "\x00\x01",
		"a kind of none":                      "\x07\x01",
	} {
		wantRead(t, name, false, snap, record)
		wantRead(t, name+", behind another", false, snap, "\x06\x01", record)
	}
	wantRead(t, "Revoke twice", false, snap, "\x05\x01", "\x05\x01")
	wantRead(t, "Pay twice", false, snap, "\x04\x03", "\x04\x03")
	wantRead(t, "Raise down", false, snap, "\x06\x03", "\x06\x02")
	wantRead(t, "Raise to the same", false, snap, "\x06\x03", "\x06\x03")
	wantRead(t, "Freeze below the floor", false, snap, "\x06\x01", "\x06\x03", "\x03\x01")
	wantRead(t, "an order below the floor", false, snap, "\x06\x06", orderRecord(4, order(9, 7)))
	wantRead(t, "an order at the floor", true, snap, "\x06\x05", orderRecord(4, order(9, 7)))
	wantRead(t, "the last orders", true, snap, orderRecord(4, order(9, 7)), orderRecord(5, order(10, 7)))
	wantRead(t, "one order too many", false, snap, orderRecord(4, order(9, 7)), orderRecord(5, order(10, 7)), orderRecord(5, order(11, 7)))
	poor := scenery()
	poor.Book = api.Book{}
	for _, record := range []string{"\x04\x03", "\x05\x01", "\x06\x02"} {
		wantRead(t, "without money", false, snapshot(poor), record)
	}
}

// TestOwnersP23_10: the Owner of a record counts as 0 if it is no wallet's node, however great it is.
func TestOwnersP23_10(t *testing.T) {
	for _, owner := range []uint64{0, 1, 2, 3, 4, 5, 6, 7, 24, 25, 127, 128, 260, 1<<32 + 4, 1<<63 - 1, 1 << 63, 1<<63 + 4, 1<<64 - 1} {
		record := "\x01" + short(owner) + order(9, 7)
		wantRead(t, "an Owner", true, blank, record)
		i := wantOpen(t, "an Owner", flash.Load(4096, bank(1, blank, record), nil), modelOrder(config, api.IssuerState{}, map[uint64]int{4: 4, 5: 5}[owner], api.Order{Rides: 3, Price: 7, Anchor: anchor(9)}).s)
		want := 0
		if owner == 4 || owner == 5 {
			want = int(owner)
		}
		if got := i.State().Carnets[0].Owner; got != want {
			t.Errorf("P23.10: the Owner %d is read as %d", owner, got)
		}
	}
}

// TestOddSnapshotsP23_10: an Issuer goes on from snapshots that no Issuer wrote; then it is opened again.
func TestOddSnapshotsP23_10(t *testing.T) {
	r := chance(10)
	for range 60 {
		var carnets []api.Carnet
		for serial := 1; serial <= 1+r.IntN(5); serial++ {
			c := carnet(serial, r.IntN(25), 1+r.IntN(4))
			c.Paid = int64(r.IntN(3)) * 1 << 40
			c.Refund = api.Refund{Top: r.IntN(5)}
			for range r.IntN(5) {
				c.Refund.Acked = append(c.Refund.Acked, r.IntN(3) > 0)
				c.Refund.Serial, c.Refund.Rides = serial, 3
			}
			if r.IntN(4) == 0 {
				c.Cert.Sig = api.Sig{1}
			}
			carnets = append(carnets, c)
		}
		s := stateOf(carnets...)
		s.Book.Net[r.IntN(3)] += int64(r.IntN(100)) - 50
		s.Floor = api.Floor{Floor: r.IntN(9) * r.IntN(2)}
		p := stand(t, s)
		for range 25 {
			n := 1 + r.IntN(7)
			p.do([]op{freezing(n), paying(n), revoking(n), raising(n), taking(r.IntN(8), order(n, 10)), ack(1+r.IntN(3), n, n, r.IntN(4)), ack(1+r.IntN(3), n, n, r.IntN(4))}[r.IntN(7)])
			p.i.Prove(n)
		}
		p.i.Head()
		p.open()
	}
}

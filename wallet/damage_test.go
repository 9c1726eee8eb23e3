package wallet_test

import (
	"math/rand/v2"
	"slices"
	"strings"
	"testing"

	"farebox/api"
	"farebox/flash"
	"farebox/wallet"
)

// C, D are certificates of the serials 5 and 6, for 3 rides at 250 and 1 ride at 0; S is a receipt of the serial 5. Nobody has signed them: that is not looked at again.
var (
	C = api.Cert{Serial: 5, Rides: 3, Price: 250, Anchor: api.Hash{1}, Sig: api.Sig{2}}
	D = api.Cert{Serial: 6, Rides: 1, Anchor: api.Hash{3}, Sig: api.Sig{4}}
	S = api.Receipt{Serial: 5, Rides: 9, Amount: 77, Sig: api.Sig{5}}
)

// wantRead asks what Open makes of a journal, and that the model says so too.
func wantRead(t *testing.T, what string, may bool, told string, records ...string) {
	t.Helper()
	want, ok := readPurses(told)
	for _, r := range records {
		if ok {
			want, ok = playOn(want, r)
		}
	}
	if ok != may {
		t.Fatalf("%s: the model says %v", what, ok)
	}
	f := flash.Load(4096, bank(3, told, records...), nil)
	if !may {
		wantRefused(t, what, config, number, f, api.ErrDamage)
		wantFiles(t, "P18.1: "+what, f, bank(3, told, records...), nil)
		return
	}
	w, err := wallet.Open(config, keys(), number, f)
	if err != api.OK {
		t.Fatalf("P18.1: Open, %s = %d", what, err)
	}
	wantState(t, what, w.State(), want)
}

// TestSnapshotsP18_1: snapshots at the edges of what can be read.
func TestSnapshotsP18_1(t *testing.T) {
	long, high := C, C
	long.Rides, high.Price, high.Serial = 4096, 1000000000, 65535
	for name, told := range map[string]string{
		"no purses":              "\x00",
		"one ride for nothing":   snapshotOf(purse(1, 0, "", 0, "")),
		"the most of both":       snapshotOf(purse(4096, 1000000000, "", 0, "")),
		"a certificate":          snapshotOf(purse(3, 250, tell(C), 0, "")),
		"rides":                  snapshotOf(purse(3, 250, tell(C), 2, "")),
		"all rides":              snapshotOf(purse(3, 250, tell(C), 3, "")),
		"all of 4096":            snapshotOf(purse(4096, 250, tell(long), 4096, "")),
		"the greatest serial":    snapshotOf(purse(3, 1000000000, tell(high), 1, "")),
		"a receipt":              snapshotOf(purse(3, 250, tell(C), 0, tellReceipt(S))),
		"a receipt, and rides":   snapshotOf(purse(3, 250, tell(C), 3, tellReceipt(S))),
		"several":                snapshotOf(purse(1, 0, "", 0, ""), purse(1, 0, tell(D), 1, ""), purse(3, 250, tell(C), 0, tellReceipt(S)), purse(3, 250, "", 0, "")),
		"a number of two bytes":  snapshotOf(slices.Repeat([]string{purse(1, 0, "", 0, "")}, 200)...),
		"one anchor of two":      snapshotOf(purse(3, 250, tell(C), 0, ""), purse(1, 0, tell(api.Cert{Serial: 9, Rides: 1, Anchor: C.Anchor}), 0, "")),
		"a receipt for too many": snapshotOf(purse(1, 0, tell(D), 1, tellReceipt(api.Receipt{Serial: 6, Rides: 4096, Amount: 1 << 62}))),
	} {
		wantRead(t, name, true, told)
	}
}

// TestBadSnapshotsP18_1: snapshots that cannot be read, by each reason.
func TestBadSnapshotsP18_1(t *testing.T) {
	cert, receipt := tell(C), tellReceipt(S)
	good := purse(3, 250, cert, 1, receipt)
	other, rides, price := S, C, C
	other.Serial, rides.Rides, price.Price = 6, 4, 251
	for name, told := range map[string]string{
		"no bytes":                        "",
		"bytes behind":                    snapshotOf(good) + "\x00",
		"bytes behind none":               "\x00\x00",
		"a purse less":                    "\x02" + good,
		"a purse more":                    "\x00" + good,
		"a number that is not short":      "\x81\x00" + good,
		"a number beyond any":             "\xff\xff\xff\xff\xff\xff\xff\xff\xff\x01" + good,
		"65536 purses":                    "\x80\x80\x04" + strings.Repeat(purse(1, 0, "", 0, ""), 30),
		"rides 0":                         snapshotOf(purse(0, 250, "", 0, "")),
		"rides 4097":                      snapshotOf(purse(4097, 250, "", 0, "")),
		"rides 2^32 - 1":                  snapshotOf(purse(1<<32-1, 250, "", 0, "")),
		"price 1000000001":                snapshotOf(purse(3, 1000000001, "", 0, "")),
		"price 2^63":                      snapshotOf(purse(3, 1<<63, "", 0, "")),
		"price 2^64 - 1":                  snapshotOf(purse(3, 1<<64-1, "", 0, "")),
		"out of range behind a good one":  snapshotOf(good, purse(0, 250, "", 0, "")),
		"a flag 2 for a certificate":      snapshotOf(u32(3) + u64(250) + "\x02" + sized(cert) + u32(0) + "\x00"),
		"a flag 2 for a receipt":          snapshotOf(u32(3) + u64(250) + "\x01" + sized(cert) + u32(0) + "\x02" + sized(receipt)),
		"a certificate of no bytes":       snapshotOf(u32(3) + u64(250) + "\x01\x00" + u32(0) + "\x00"),
		"a receipt of no bytes":           snapshotOf(u32(3) + u64(250) + "\x01" + sized(cert) + u32(0) + "\x01\x00"),
		"a certificate too short":         snapshotOf(purse(3, 250, cert[:115], 0, "")),
		"a certificate too long":          snapshotOf(purse(3, 250, cert+"\x00", 0, "")),
		"one far too long":                snapshotOf(purse(3, 250, cert+strings.Repeat("\x00", 909), 0, "")),
		"a receipt as a certificate":      snapshotOf(purse(3, 250, receipt, 0, "")),
		"a certificate as a receipt":      snapshotOf(purse(3, 250, cert, 0, cert)),
		"a certificate of serial 0":       snapshotOf(purse(3, 250, cert[:4]+u32(0)+cert[8:], 0, "")),
		"a receipt too short":             snapshotOf(purse(3, 250, cert, 0, receipt[:83])),
		"a receipt too long":              snapshotOf(purse(3, 250, cert, 0, receipt+"\x00")),
		"a receipt far too long":          snapshotOf(purse(3, 250, cert, 0, receipt+strings.Repeat("\x00", 941))),
		"a receipt of serial 0":           snapshotOf(purse(3, 250, cert, 0, receipt[:4]+u32(0)+receipt[8:])),
		"a certificate of other rides":    snapshotOf(purse(3, 250, tell(rides), 0, "")),
		"a certificate of another price":  snapshotOf(purse(3, 250, tell(price), 0, "")),
		"more rides than there are":       snapshotOf(purse(3, 250, cert, 4, "")),
		"far more rides than there are":   snapshotOf(purse(3, 250, cert, 1<<32-1, "")),
		"a ride without a certificate":    snapshotOf(purse(3, 250, "", 1, "")),
		"all rides without a certificate": snapshotOf(purse(3, 250, "", 3, "")),
		"a receipt without a certificate": snapshotOf(purse(3, 250, "", 0, receipt)),
		"a receipt of another serial":     snapshotOf(purse(3, 250, cert, 0, tellReceipt(other))),
		"a neighbour's receipt":           snapshotOf(purse(3, 250, cert, 0, tellReceipt(other)), purse(1, 0, tell(D), 0, "")),
		"two of one serial":               snapshotOf(good, purse(1, 0, "", 0, ""), purse(3, 250, cert, 0, "")),
		"two of one serial, side by side": snapshotOf(purse(3, 250, cert, 0, ""), purse(1, 0, tell(api.Cert{Serial: 5, Rides: 1}), 0, "")),
	} {
		wantRead(t, name, false, told)
		// Whatever stands behind a snapshot does not mend it.
		wantRead(t, name+", and a record", false, told, orderOf(1, 1))
	}
}

// TestSnapshotPiecesP18_1: no proper beginning of a snapshot can be read, and of those with a byte changed just those that the model reads.
func TestSnapshotPiecesP18_1(t *testing.T) {
	told := snapshotOf(purse(1, 0, tell(D), 1, ""), purse(3, 250, tell(C), 2, tellReceipt(S)), purse(7, 9, "", 0, ""))
	for n := range told {
		wantRead(t, "a beginning", false, told[:n])
	}
	met := map[bool]int{}
	for i := range told {
		for _, turn := range []byte{1, 2, 4, 128, 255} {
			b := []byte(told)
			b[i] ^= turn
			_, may := readPurses(string(b))
			met[may]++
			wantRead(t, "a changed byte", may, string(b))
		}
	}
	if met[true] == 0 || met[false] == 0 {
		t.Errorf("%v", met)
	}
}

// TestSnapshotsByChanceP18_1: snapshots made of parts by chance.
func TestSnapshotsByChanceP18_1(t *testing.T) {
	r := chance(1)
	met := map[bool]int{}
	for range 3000 {
		var list []string
		for range r.IntN(4) {
			x := []api.Cert{C, D}[r.IntN(2)]
			rides, price, cert, receipt := uint32(x.Rides), uint64(x.Price), tell(x), ""
			s := S
			s.Serial = x.Serial
			if r.IntN(3) == 0 {
				receipt = tellReceipt(s)
			}
			switch r.IntN(12) {
			case 0:
				rides++
			case 1:
				price++
			case 2, 3, 4:
				cert, receipt = "", ""
			case 5:
				receipt = tellReceipt(S)
			}
			list = append(list, purse(rides, price, cert, uint32(r.IntN(3)), receipt))
		}
		told := snapshotOf(list...)
		_, may := readPurses(told)
		met[may]++
		wantRead(t, "parts by chance", may, told)
	}
	if met[true] < 300 || met[false] < 300 {
		t.Errorf("%v", met)
	}
}

// ahead is what stands ahead of the records that are tried: purse 1 with C and a ride, purse 2 with D, refunded, purse 3 like purse 1 without a certificate, purse 4 ridden out.
func ahead() (string, []string) {
	gone := api.Cert{Serial: 8, Rides: 2, Price: 1}
	told := snapshotOf(purse(3, 250, tell(C), 0, ""), purse(1, 0, "", 0, ""))
	return told, []string{
		orderOf(3, 250), rideOf(5), certOf(2, tell(D)), receiptOf(tellReceipt(api.Receipt{Serial: 6})),
		orderOf(2, 1), certOf(4, tell(gone)), rideOf(8), rideOf(8),
	}
}

// TestRecordsP18_1: records at the edges of what can be read.
func TestRecordsP18_1(t *testing.T) {
	told, records := ahead()
	high := api.Cert{Serial: 65535, Rides: 3, Price: 250}
	low := api.Cert{Serial: 1, Rides: 3, Price: 250, Anchor: C.Anchor}
	for name, list := range map[string][]string{
		"an order of one ride for nothing": {orderOf(1, 0)},
		"the greatest order":               {orderOf(4096, 1000000000)},
		"the greatest serial":              {certOf(3, tell(high)), rideOf(65535)},
		"the least":                        {certOf(3, tell(low)), rideOf(1)},
		"a purse that was ordered here":    {orderOf(1, 0), certOf(5, tell(api.Cert{Serial: 9, Rides: 1}))},
		"a ride":                           {rideOf(5)},
		"all rides":                        {rideOf(5), rideOf(5)},
		"a receipt":                        {receiptOf(tellReceipt(S))},
		"a receipt behind all rides":       {rideOf(5), rideOf(5), receiptOf(tellReceipt(S))},
		"the receipt of one ridden out":    {receiptOf(tellReceipt(api.Receipt{Serial: 8, Rides: 4096}))},
	} {
		wantRead(t, name, true, told, slices.Concat(records, list)...)
	}
}

// TestBadRecordsP18_1: records that cannot be read, of each kind by each reason; with a good one behind them too.
func TestBadRecordsP18_1(t *testing.T) {
	told, records := ahead()
	fit := api.Cert{Serial: 9, Rides: 3, Price: 250}
	cert, receipt := tell(fit), tellReceipt(S)
	rides, price, same := fit, fit, fit
	rides.Rides, price.Price, same.Serial = 2, 251, 8
	for name, record := range map[string]string{
		"no bytes":                           "",
		"kind 0":                             "\x00",
		"kind 0, like an order":              "\x00" + orderOf(1, 1)[1:],
		"kind 5, like a ride":                "\x05" + rideOf(5)[1:],
		"kind 255":                           "\xff",
		"an order cut":                       orderOf(1, 1)[:12],
		"an order's kind alone":              "\x01",
		"bytes behind an order":              orderOf(1, 1) + "\x00",
		"an order of no rides":               orderOf(0, 1),
		"an order of 4097":                   orderOf(4097, 1),
		"an order of 2^32 - 1":               orderOf(1<<32-1, 1),
		"a price of 1000000001":              orderOf(1, 1000000001),
		"a price of 2^63":                    orderOf(1, 1<<63),
		"a price of 2^64 - 1":                orderOf(1, 1<<64-1),
		"a certificate's kind alone":         "\x02",
		"a purse's number cut":               "\x02" + u32(3)[:3],
		"no certificate":                     certOf(3, ""),
		"a certificate cut":                  certOf(3, cert[:115]),
		"bytes behind a certificate":         certOf(3, cert+"\x00"),
		"another message":                    certOf(3, receipt),
		"a serial out of range":              certOf(3, cert[:4]+u32(0)+cert[8:]),
		"purse 0":                            certOf(0, cert),
		"a purse too many":                   certOf(5, cert),
		"purse 2^32 - 1":                     certOf(1<<32-1, cert),
		"purse 2^31":                         certOf(1<<31, cert),
		"a purse that has a certificate":     certOf(1, cert),
		"the one that it has":                certOf(1, tell(C)),
		"other rides":                        certOf(3, tell(rides)),
		"another price":                      certOf(3, tell(price)),
		"a serial that a purse has":          certOf(3, tell(C)),
		"a serial that a later purse has":    certOf(3, tell(same)),
		"a ride's kind alone":                "\x03",
		"a ride cut":                         rideOf(5)[:4],
		"bytes behind a ride":                rideOf(5) + "\x00",
		"a ride of serial 0":                 rideOf(0),
		"a ride of no carnet":                rideOf(9),
		"a ride of 2^32 - 1":                 rideOf(1<<32 - 1),
		"a ride behind a receipt":            rideOf(6),
		"a ride too many":                    rideOf(8),
		"a receipt's kind alone":             "\x04",
		"a receipt cut":                      receiptOf(receipt[:83]),
		"bytes behind a receipt":             receiptOf(receipt + "\x00"),
		"another message for a receipt":      receiptOf(cert),
		"a receipt of serial 0":              receiptOf(receipt[:4] + u32(0) + receipt[8:]),
		"a receipt of no carnet":             receiptOf(tellReceipt(api.Receipt{Serial: 9})),
		"a receipt where there is one":       receiptOf(tellReceipt(api.Receipt{Serial: 6, Rides: 1})),
		"the one that is there":              receiptOf(tellReceipt(api.Receipt{Serial: 6})),
		"a receipt ahead of its certificate": receiptOf(tellReceipt(api.Receipt{Serial: 3})),
	} {
		all := append(slices.Clone(records), record)
		wantRead(t, name, false, told, all...)
		wantRead(t, name+", and a good one", false, told, append(all, orderOf(1, 1))...)
		wantRead(t, name+", first of all", false, "\x00", record)
	}
}

// drawRecord is a record by chance, of the two certificates' carnets.
func drawRecord(r *rand.Rand) string {
	x := []api.Cert{C, D}[r.IntN(2)]
	switch r.IntN(6) {
	case 0:
		return orderOf(uint32(x.Rides), uint64(x.Price))
	case 1:
		return certOf(uint32(1+r.IntN(2)), tell(x))
	case 2:
		return receiptOf(tellReceipt(api.Receipt{Serial: x.Serial, Rides: r.IntN(2)}))
	}
	return rideOf(uint32(x.Serial))
}

// TestRecordsByChanceP18_1: lists of records by chance, most of which go together, and with a byte changed.
func TestRecordsByChanceP18_1(t *testing.T) {
	r := chance(2)
	met := map[bool]int{}
	for range 4000 {
		told := snapshotOf(purse(3, 250, "", 0, ""), purse(1, 0, "", 0, ""))
		purses, may := readPurses(told)
		var list []string
		for may && len(list) < 8 {
			x := drawRecord(r)
			if r.IntN(20) == 0 {
				b := []byte(x)
				b[r.IntN(min(12, len(b)))] ^= 1 << r.IntN(8)
				x = string(b)
			}
			behind, plays := playOn(purses, x)
			if plays || r.IntN(10) == 0 {
				list, purses, may = append(list, x), behind, plays
			}
		}
		met[may]++
		wantRead(t, "records by chance", may, told, list...)
	}
	if met[true] < 300 || met[false] < 300 {
		t.Errorf("%v", met)
	}
}

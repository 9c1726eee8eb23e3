package gate_test

import (
	"math"
	"slices"
	"strings"
	"testing"

	"farebox/api"
	"farebox/flash"
	"farebox/gate"
)

// C and D are certificates of the serials 5 and 6, F and G floors at 4 and 6. Nobody has signed them: that is not looked at again.
var (
	C = api.Cert{Serial: 5, Rides: 3, Price: 250, Anchor: api.Hash{1}, Sig: api.Sig{2}}
	D = api.Cert{Serial: 6, Rides: 1, Anchor: api.Hash{3}, Sig: api.Sig{4}}
	F = api.Floor{Floor: 4, Sig: api.Sig{5}}
	G = api.Floor{Floor: 6, Sig: api.Sig{6}}
)

// row is an entry of a certificate with some value; ice and gone are its flags.
func row(c api.Cert, index int, ice, gone bool) api.Entry {
	e := api.Entry{Cert: c, Index: index, Value: api.Hash{byte(index)}, Frozen: ice, Revoked: gone}
	if ice {
		e.Freeze = api.Sig{7}
	}
	if gone {
		e.Revoke = api.Sig{8}
	}
	return e
}

// wantRead asks what Open makes of a journal, with a bound of rows, and that the model says so too.
func wantRead(t *testing.T, what string, may bool, bound int, snap string, records ...string) {
	t.Helper()
	want, ok := readState(snap)
	ok = ok && len(want.rows) <= bound
	for _, r := range records {
		if ok {
			want, ok = playOn(want, bound, r)
		}
	}
	if ok != may {
		t.Fatalf("%s: the model says %v", what, ok)
	}
	size := len(bank(3, snap, records...)) + 1
	f := flash.Load(size, bank(3, snap, records...), nil)
	c := config
	c.Rows = bound
	if !may {
		wantRefused(t, what, c, number, f, api.ErrDamage)
		wantFiles(t, "P19.6: "+what, f, bank(3, snap, records...), nil)
		return
	}
	g, err := gate.Open(c, keys(), number, f)
	if err != api.OK {
		t.Fatalf("P19.6: Open, %s = %d", what, err)
	}
	wantState(t, "P19.6: "+what, g.State(), want.state())
}

// manyRows are rows of rising serials from first on.
func manyRows(first, n int) []string {
	var list []string
	for i := range n {
		list = append(list, tellEntry(row(api.Cert{Serial: first + i, Rides: 2}, 1, i%2 == 0, i%3 == 0)))
	}
	return list
}

// TestSnapshotsP19_6: snapshots at the edges of what can be read.
func TestSnapshotsP19_6(t *testing.T) {
	floor := tellFloor(F)
	last := tellFloor(api.Floor{Floor: 65536})
	c, d := tellEntry(row(C, 0, false, false)), tellEntry(row(D, 1, true, true))
	for name, snap := range map[string]string{
		"zeros":                     blank,
		"one accepted":              snapshotOf(1, ""),
		"the most accepted":         snapshotOf(math.MaxInt, ""),
		"a floor":                   snapshotOf(0, floor),
		"the greatest floor":        snapshotOf(2, last),
		"the least floor":           snapshotOf(2, tellFloor(api.Floor{Floor: 1})),
		"a row":                     snapshotOf(3, "", c),
		"a row of all":              snapshotOf(3, "", d),
		"two rows":                  snapshotOf(3, "", c, d),
		"a floor and two rows":      snapshotOf(3, floor, c, d),
		"a row at the floor":        snapshotOf(3, tellFloor(G), d),
		"a row at its last ride":    snapshotOf(3, floor, tellEntry(row(C, 3, true, false))),
		"the least and the most":    snapshotOf(0, "", manyRows(1, 1)[0], manyRows(65535, 1)[0]),
		"256 rows":                  snapshotOf(0, "", manyRows(1, 256)...),
		"256 rows behind a floor":   snapshotOf(0, floor, manyRows(4, 256)...),
		"a number of one byte more": snapshotOf(0, floor, manyRows(4, 128)...),
	} {
		wantRead(t, name, true, 256, snap)
	}
}

// TestBadSnapshotsP19_6: snapshots that cannot be read, by each reason.
func TestBadSnapshotsP19_6(t *testing.T) {
	floor := tellFloor(F)
	c, d := tellEntry(row(C, 0, false, false)), tellEntry(row(D, 1, true, true))
	for name, snap := range map[string]string{
		"no bytes":                        "",
		"seven bytes":                     blank[:7],
		"no floor's length":               blank[:8],
		"no number of rows":               blank[:9],
		"a byte behind zeros":             blank + "\x00",
		"a byte behind":                   snapshotOf(3, floor, c, d) + "\x00",
		"accepted 2^63":                   snapshotOf(1<<63, ""),
		"accepted 2^64 - 1":               snapshotOf(1<<64-1, floor, c),
		"a floor too short":               snapshotOf(0, floor[:71]),
		"a floor too long":                snapshotOf(0, floor+"\x00"),
		"a floor far too long":            snapshotOf(0, floor+strings.Repeat("\x00", 953)),
		"a floor of 0":                    snapshotOf(0, floor[:4]+u32(0)+floor[8:]),
		"a floor of 65537":                snapshotOf(0, floor[:4]+u32(65537)+floor[8:]),
		"an entry as a floor":             snapshotOf(0, c),
		"a byte as a floor":               snapshotOf(0, "\x00"),
		"a floor's length that is longer": u64(0) + "\xc8\x00" + floor + "\x00",
		"a floor's length beyond any":     u64(0) + "\xff\xff\xff\xff\xff\xff\xff\xff\xff\x01" + floor + "\x00",
		"a row less":                      u64(0) + "\x00" + "\x02" + sized(c),
		"a row more":                      u64(0) + "\x00" + "\x00" + sized(c),
		"a number that is longer":         u64(0) + "\x00" + "\x81\x00" + sized(c),
		"a number beyond any":             u64(0) + "\x00" + "\xff\xff\xff\xff\xff\xff\xff\xff\xff\x01" + sized(c),
		"257 rows":                        snapshotOf(0, "", manyRows(1, 257)...),
		"a row of no bytes":               snapshotOf(0, "", ""),
		"a row too short":                 snapshotOf(0, "", c[:153]),
		"a row too long":                  snapshotOf(0, "", c+"\x00"),
		"a row far too long":              snapshotOf(0, "", c+strings.Repeat("\x00", 871)),
		"a floor as a row":                snapshotOf(0, "", floor),
		"a row of serial 0":               snapshotOf(0, "", c[:4]+u32(0)+c[8:]),
		"a row of serial 65536":           snapshotOf(0, "", c[:4]+u32(65536)+c[8:]),
		"a row beyond its rides":          snapshotOf(0, "", c[:116]+u32(4)+c[120:]),
		"a flag 2":                        snapshotOf(0, "", c[:153]+"\x02"),
		"a flag without its signature":    snapshotOf(0, "", c[:153]+"\x01"),
		"a row whose length is longer":    u64(0) + "\x00\x01" + "\x9a\x81\x00" + c,
		"rows that fall":                  snapshotOf(0, "", d, c),
		"one serial twice":                snapshotOf(0, "", c, c),
		"one serial twice, by others":     snapshotOf(0, "", c, tellEntry(row(api.Cert{Serial: 5, Rides: 1}, 0, false, false))),
		"a serial twice behind others":    snapshotOf(0, "", c, d, d),
		"a row below the floor":           snapshotOf(0, tellFloor(G), c, d),
		"a row far below the floor":       snapshotOf(0, tellFloor(api.Floor{Floor: 65536}), c),
	} {
		wantRead(t, name, false, 256, snap)
		// Whatever stands behind a snapshot does not mend it.
		wantRead(t, name+", and a record", false, 256, snap, floorOf(G))
	}
}

// TestBoundP19_6: snapshots and records of as many rows as the configuration has, and of one more.
func TestBoundP19_6(t *testing.T) {
	c, d := row(C, 1, false, false), row(D, 1, true, false)
	for _, bound := range []int{1, 2, 3, 255, 256} {
		wantRead(t, "as many rows", true, bound, snapshotOf(0, "", manyRows(10, bound)...))
		if bound < 256 {
			wantRead(t, "one row more", false, bound, snapshotOf(0, "", manyRows(10, bound+1)...))
			wantRead(t, "one row more, dropped again", false, bound, snapshotOf(0, "", manyRows(10, bound+1)...), floorOf(api.Floor{Floor: 11}))
		}
		for _, kind := range []func(api.Entry) string{rideOf, entryOf} {
			wantRead(t, "a last row by a record", true, bound, snapshotOf(0, "", manyRows(10, bound-1)...), kind(c))
			wantRead(t, "one row more by a record", false, bound, snapshotOf(0, "", manyRows(10, bound)...), kind(c))
			wantRead(t, "two by records", false, bound, snapshotOf(0, "", manyRows(10, bound-1)...), kind(c), kind(d))
			wantRead(t, "an old row by a record", true, bound, snapshotOf(0, "", manyRows(10, bound)...), kind(row(api.Cert{Serial: 10, Rides: 2}, 2, true, true)))
			wantRead(t, "room behind a floor", true, bound, snapshotOf(0, "", manyRows(10, bound)...), floorOf(api.Floor{Floor: 11}), kind(row(api.Cert{Serial: 9999, Rides: 2}, 2, true, true)))
		}
	}
}

// before is what stands ahead of the records that are tried: the floor F, rows of the serials 5 (C at 1), 7 and 9, and a bound of 4.
func before() string {
	return snapshotOf(3, tellFloor(F), tellEntry(row(C, 1, false, false)), tellEntry(row(api.Cert{Serial: 7, Rides: 2}, 0, true, true)), tellEntry(row(api.Cert{Serial: 9, Rides: 1}, 1, false, false)))
}

// TestRecordsP19_6: records at the edges of what can be played; a row takes the old one's place, whatever that was.
func TestRecordsP19_6(t *testing.T) {
	low, high := row(api.Cert{Serial: 4, Rides: 2}, 1, false, false), row(api.Cert{Serial: 65535, Rides: 4096}, 4096, true, true)
	for name, list := range map[string][]string{
		"a ride":                          {rideOf(row(C, 2, false, false))},
		"an entry":                        {entryOf(row(C, 2, true, false))},
		"a row at the front":              {rideOf(low)},
		"a row in the midst":              {entryOf(row(D, 1, false, false))},
		"a row at the end":                {rideOf(high)},
		"an index that falls":             {rideOf(row(C, 0, false, false))},
		"flags that fall":                 {entryOf(row(api.Cert{Serial: 7, Rides: 2}, 0, false, false))},
		"another certificate":             {entryOf(row(api.Cert{Serial: 5, Rides: 9, Price: 1}, 9, false, false))},
		"the same row":                    {entryOf(row(C, 1, false, false)), rideOf(row(C, 1, false, false))},
		"a floor":                         {floorOf(G)},
		"a floor one above":               {floorOf(api.Floor{Floor: 5})},
		"the greatest floor":              {floorOf(api.Floor{Floor: 65536})},
		"a floor, and a row at it":        {floorOf(G), rideOf(row(D, 1, false, false))},
		"a floor that makes room":         {rideOf(low), floorOf(G), entryOf(row(D, 1, false, false)), entryOf(row(api.Cert{Serial: 8, Rides: 1}, 0, false, false))},
		"a row that stands in the others": {rideOf(low), rideOf(row(C, 2, false, false)), entryOf(row(C, 3, true, true)), floorOf(api.Floor{Floor: 5}), rideOf(high)},
	} {
		wantRead(t, name, true, 4, before(), list...)
	}
	wantRead(t, "rides up to the greatest number", true, 4, snapshotOf(math.MaxInt-2, ""), rideOf(row(C, 1, false, false)), rideOf(row(C, 2, false, false)))
	wantRead(t, "an entry and a floor behind it", true, 4, snapshotOf(math.MaxInt, ""), entryOf(row(C, 1, false, false)), floorOf(G))
}

// TestBadRecordsP19_6: records that cannot be played, by each reason of each kind.
func TestBadRecordsP19_6(t *testing.T) {
	c, floor := tellEntry(row(C, 2, true, false)), tellFloor(G)
	bad := map[string][]string{
		"no bytes":           {""},
		"kind 0":             {"\x00" + c},
		"kind 4":             {"\x04" + c},
		"kind 255":           {"\xff" + floor},
		"a message alone":    {c},
		"a floor too short":  {"\x03" + floor[:71]},
		"a floor too long":   {"\x03" + floor + "\x00"},
		"a floor far longer": {"\x03" + floor + strings.Repeat("\x00", 953)},
		"no floor":           {"\x03"},
		"an entry as floor":  {"\x03" + c},
		"a floor of 0":       {"\x03" + floor[:4] + u32(0) + floor[8:]},
		"a floor of 65537":   {"\x03" + floor[:4] + u32(65537) + floor[8:]},
		"the floor":          {floorOf(F)},
		"one below":          {floorOf(api.Floor{Floor: 3})},
		"a floor twice":      {floorOf(G), floorOf(G)},
		"floors that fall":   {floorOf(G), floorOf(api.Floor{Floor: 5})},
	}
	for kind, name := range map[string]string{"\x01": "a ride", "\x02": "an entry"} {
		other := kind + tellEntry(row(D, 1, false, false))
		bad[name+" of no bytes"] = []string{kind}
		bad[name+" too short"] = []string{kind + c[:len(c)-1]}
		bad[name+" too long"] = []string{kind + c + "\x00"}
		bad[name+" far too long"] = []string{kind + c + strings.Repeat("\x00", 807)}
		bad[name+" that is a floor"] = []string{kind + floor}
		bad[name+" that is a ticket"] = []string{kind + tellTicket(api.Ticket{Cert: C, Index: 2})}
		bad[name+" of serial 0"] = []string{kind + c[:4] + u32(0) + c[8:]}
		bad[name+" of serial 65536"] = []string{kind + c[:4] + u32(65536) + c[8:]}
		bad[name+" beyond its rides"] = []string{kind + c[:116] + u32(4) + c[120:]}
		bad[name+" with a flag 2"] = []string{kind + tellEntry(row(C, 2, false, false))[:153] + "\x02"}
		bad[name+" below the floor"] = []string{kind + tellEntry(row(api.Cert{Serial: 3, Rides: 2}, 1, false, false))}
		bad[name+" below a new floor"] = []string{floorOf(G), kind + c}
		bad[name+" without room"] = []string{other, kind + tellEntry(row(api.Cert{Serial: 8, Rides: 1}, 0, false, false))}
	}
	for name, list := range bad {
		wantRead(t, name, false, 4, before(), list...)
		wantRead(t, name+", and a good one", false, 4, before(), append(slices.Clone(list), entryOf(row(api.Cert{Serial: 9, Rides: 1}, 1, false, false)))...)
		wantRead(t, name+" behind a good one", false, 4, before(), append([]string{entryOf(row(api.Cert{Serial: 9, Rides: 1}, 1, false, false))}, list...)...)
	}
	most := snapshotOf(math.MaxInt, "", tellEntry(row(C, 1, false, false)))
	wantRead(t, "a ride more than can be counted", false, 4, most, rideOf(row(C, 2, false, false)))
	wantRead(t, "a ride more than can be counted, of a new row", false, 4, most, rideOf(row(D, 1, false, false)))
	wantRead(t, "one that comes there", false, 4, snapshotOf(math.MaxInt-1, ""), rideOf(row(C, 1, false, false)), rideOf(row(C, 2, false, false)))
}

// TestPiecesP19_6: no proper beginning of a snapshot or a record can be read, and of those with a byte changed just those that the model reads.
func TestPiecesP19_6(t *testing.T) {
	snap := before()
	for n := range snap {
		wantRead(t, "a beginning", false, 4, snap[:n])
	}
	met := map[bool]int{}
	changed := func(b string, try func(b string)) {
		for i := range b {
			for _, turn := range []byte{1, 2, 4, 128, 255} {
				x := []byte(b)
				x[i] ^= turn
				try(string(x))
			}
		}
	}
	changed(snap, func(b string) {
		k, may := readState(b)
		may = may && len(k.rows) <= 4
		met[may]++
		wantRead(t, "a changed byte", may, 4, b)
	})
	start, _ := readState(snap)
	for _, record := range []string{rideOf(row(C, 2, true, false)), entryOf(row(D, 1, true, true)), floorOf(G)} {
		for n := range record {
			wantRead(t, "a record's beginning", false, 4, snap, record[:n])
		}
		changed(record, func(b string) {
			_, may := playOn(start, 4, b)
			met[may]++
			wantRead(t, "a record's changed byte", may, 4, snap, b)
		})
	}
	if met[true] < 100 || met[false] < 100 {
		t.Errorf("%v", met)
	}
}

// TestRecordsByChanceP19_6: records by chance, one behind the other.
func TestRecordsByChanceP19_6(t *testing.T) {
	r := chance(6)
	met := map[bool]int{}
	for range 4000 {
		k, _ := readState(blank)
		may := true
		var list []string
		for range 1 + r.IntN(7) {
			record := floorOf(api.Floor{Floor: 1 + r.IntN(9)})
			if n := r.IntN(8); n > 0 {
				c := api.Cert{Serial: 1 + r.IntN(9), Rides: 3, Price: int64(r.IntN(2))}
				record = []string{rideOf(row(c, r.IntN(4), n < 3, n == 2)), entryOf(row(c, r.IntN(4), n < 5, n == 4))}[r.IntN(2)]
			}
			list = append(list, record)
			if may {
				k, may = playOn(k, 4, record)
			}
		}
		met[may]++
		wantRead(t, "records by chance", may, 4, blank, list...)
	}
	if met[true] < 500 || met[false] < 500 {
		t.Errorf("%v", met)
	}
}

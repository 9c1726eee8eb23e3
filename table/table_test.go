package table_test

import (
	"math"
	"slices"
	"testing"

	"farebox/api"
	"farebox/table"
)

// states are tables of no row, of one, and of many, with gaps between their serials, with a floor and without one.
func states() []api.GateState {
	many := state(api.Floor{}, 7)
	for serial := 10; serial <= 1000; serial += 10 {
		many.Rows = append(many.Rows, revoked(at(cert(serial), serial%7, byte(serial)), byte(serial/3)))
	}
	floored := many
	floored.Floor = floor(10, 3)
	low := many
	low.Floor = floor(5, 3)
	return []api.GateState{{}, state(floor(4, 1), 2), state(api.Floor{}, 0, at(c, 2, 7)), state(floor(3, 200), 1, at(c, 2, 7)), state(api.Floor{}, 3, at(c, 2, 7), at(d, 1, 1)), many, floored, low}
}

// serials are those of a table's rows, those by them, below all and above all, those by the floor, and the ends of an int.
func serials(s api.GateState) []int {
	l := append([]int{s.Floor.Floor - 1, s.Floor.Floor, s.Floor.Floor + 1}, edges...)
	for _, e := range s.Rows {
		l = append(l, e.Cert.Serial-1, e.Cert.Serial, e.Cert.Serial+1)
	}
	slices.Sort(l)
	return slices.Compact(l)
}

// wantPut asks what the model says of a put; it answers the state behind it.
func wantPut(t *testing.T, s api.GateState, rows int, e api.Entry) api.GateState {
	t.Helper()
	want, moved, wantErr := modelPut(s, rows, e)
	got, changed, err := table.Put(s, rows, e)
	wantState(t, "P17.4: Put of "+brief(e), got, err, want, wantErr)
	if changed != moved {
		t.Errorf("P17.4: Put of %s into %s: changed %v", brief(e), short(s.Rows), changed)
	}
	return got
}

// wantRaise asks what the model says of a floor; it answers the state behind it.
func wantRaise(t *testing.T, s api.GateState, f api.Floor) api.GateState {
	t.Helper()
	want, wantErr := modelRaise(s, f)
	got, err := table.Raise(s, f)
	wantState(t, "P17.5: Raise", got, err, want, wantErr)
	return got
}

// TestFindP17_3: every row by its serial, and nothing by any other.
func TestFindP17_3(t *testing.T) {
	for i, s := range states() {
		rows := bySerial(s.Rows)
		for _, serial := range serials(s) {
			want, there := rows[serial]
			if got, ok := table.Find(s, serial); got != want || ok != there {
				t.Errorf("P17.3: state %d: Find(%d) = %s, %v, want %s, %v", i, serial, brief(got), ok, brief(want), there)
			}
		}
	}
	// The row is told as it stands.
	odd := at(c, -5, 1)
	odd.Freeze = sig(8)
	if got, ok := table.Find(state(api.Floor{}, 0, odd, at(d, 1, 1)), 3); got != odd || !ok {
		t.Errorf("P17.3: Find = %s, %v", brief(got), ok)
	}
	zero := api.Entry{}
	if got, ok := table.Find(state(api.Floor{}, 0, zero), 0); got != zero || !ok {
		t.Errorf("P17.3: Find of the entry of zeros = %s, %v", brief(got), ok)
	}
}

// TestExamplesP17_4: the chapter's examples of tables, one behind the other.
func TestExamplesP17_4(t *testing.T) {
	var s api.GateState
	put := func(rows int, e api.Entry, want bool, wantErr api.Errno, left ...api.Entry) {
		t.Helper()
		got, changed, err := table.Put(s, rows, e)
		wantState(t, "P17.4: example", got, err, state(s.Floor, s.Accepted, left...), wantErr)
		if changed != want {
			t.Errorf("P17.4: example: Put of %s: %v", brief(e), changed)
		}
		s = got
	}
	put(2, at(d, 1, 1), true, api.OK, at(d, 1, 1))
	put(2, at(c, 2, 7), true, api.OK, at(c, 2, 7), at(d, 1, 1))
	put(2, at(c, 1, 9), false, api.OK, at(c, 2, 7), at(d, 1, 1))
	put(2, at(c, 2, 7), false, api.OK, at(c, 2, 7), at(d, 1, 1))
	put(2, at(cert(4), 1, 1), false, api.ErrRows, at(c, 2, 7), at(d, 1, 1))
	up, err := table.Raise(s, floor(4, 1))
	wantState(t, "P17.5: example", up, err, state(floor(4, 1), 0, at(d, 1, 1)), api.OK)
	s = up
	put(2, at(c, 5, 5), false, api.ErrFloor, at(d, 1, 1))
	again, err := table.Raise(s, floor(4, 9))
	wantState(t, "P17.5: example", again, err, s, api.ErrFloor)
}

// TestRefusalsInOrderP17_4: where several errors apply, the floor goes first, then the row that is there, then the room.
func TestRefusalsInOrderP17_4(t *testing.T) {
	s := state(floor(3, 1), 6, at(c, 2, 7), at(d, 1, 1))
	other := at(c, 9, 9)
	other.Cert.Rides++
	low := other
	low.Cert.Serial = 2
	for _, x := range []struct {
		rows int
		e    api.Entry
		err  api.Errno
	}{
		{0, low, api.ErrFloor}, {9, low, api.ErrFloor}, {math.MinInt, low, api.ErrFloor},
		{0, other, api.ErrOther}, {2, other, api.ErrOther}, {9, other, api.ErrOther}, {-1, other, api.ErrOther},
		{0, at(cert(4), 1, 1), api.ErrRows}, {2, at(cert(4), 1, 1), api.ErrRows}, {2, at(cert(6), 1, 1), api.ErrRows},
	} {
		got, changed, err := table.Put(s, x.rows, x.e)
		wantState(t, "P17.4: refused", got, err, s, x.err)
		if changed {
			t.Errorf("P17.4: a refused Put of %s tells a change", brief(x.e))
		}
	}
	// A row below the floor is in no table that is made; the floor goes first all the same.
	s.Floor = floor(4, 1)
	if _, changed, err := table.Put(s, 9, at(c, 9, 9)); changed || err != api.ErrFloor {
		t.Errorf("P17.4: Put below the floor: %v, %d", changed, err)
	}
}

// TestRoomP17_4: the bound is asked of new rows alone, at every number by that of the rows and at the ends of an int.
func TestRoomP17_4(t *testing.T) {
	for _, s := range states() {
		n := len(s.Rows)
		for _, rows := range append([]int{n - 1, n, n + 1, n + 2}, edges...) {
			for _, serial := range serials(s) {
				wantPut(t, s, rows, frozen(at(cert(serial), 100, 1), 4))
			}
		}
	}
}

// TestPlaceP17_4: a new row comes at its serial's place, as it stands: ahead of all, behind all, and between any two.
func TestPlaceP17_4(t *testing.T) {
	odd := api.Entry{Cert: cert(0), Index: -3, Value: value(2), Freeze: sig(9), Revoke: sig(8)}
	for _, s := range states() {
		for _, serial := range serials(s) {
			e := odd
			e.Cert.Serial = serial
			wantPut(t, s, math.MaxInt, e)
		}
	}
	got, changed, err := table.Put(api.GateState{}, 1, odd)
	wantState(t, "P17.4: an entry that may not be", got, err, state(api.Floor{}, 0, odd), api.OK)
	if !changed {
		t.Error("P17.4: a new row is no change")
	}
	got, changed, err = table.Put(got, 1, odd)
	wantState(t, "P17.4: an entry that may not be, once more", got, err, state(api.Floor{}, 0, mayBe(odd)), api.OK)
	if !changed {
		t.Error("P17.4: a row that loses a signature is the same")
	}
}

// TestJoinedP17_4: a row is joined in its place, whichever it is, and whether it became another one is told for each thing of an entry.
func TestJoinedP17_4(t *testing.T) {
	for _, s := range states() {
		for _, row := range s.Rows {
			higher, greater, tied, stopped, signed := row, row, row, row, row
			higher.Index++
			greater.Index, greater.Value = row.Index-1, value(255)
			tied.Value[31]++
			stopped.Frozen, stopped.Freeze = true, sig(0)
			signed.Revoked, signed.Revoke = true, sig(255)
			for _, e := range []api.Entry{row, higher, greater, tied, stopped, signed, {Cert: row.Cert}} {
				behind := wantPut(t, s, 0, e)
				if _, changed, err := table.Put(behind, 0, e); changed || err != api.OK {
					t.Errorf("P17.4: Put of %s once more: %v, %d", brief(e), changed, err)
				}
			}
		}
	}
}

// TestOtherCertP17_4: a row is not joined with an entry whose certificate differs in one field alone; another serial is another row.
func TestOtherCertP17_4(t *testing.T) {
	s := state(floor(1, 1), 2, at(cert(1), 5, 5), at(c, 2, 7), at(d, 1, 1))
	for _, row := range s.Rows {
		for _, x := range others(row.Cert) {
			wantPut(t, s, math.MaxInt, at(x, 9, 9))
		}
	}
}

// TestFloorP17_4: a serial at the floor is taken, one below it is not, whether there is a row or not.
func TestFloorP17_4(t *testing.T) {
	for _, n := range []int{1, 2, 65535, math.MaxInt} {
		s := state(floor(n, 2), 1)
		for _, serial := range append([]int{n - 1, n, n + 1}, edges...) {
			wantPut(t, wantPut(t, s, 3, at(cert(serial), 1, 1)), 3, at(cert(serial), 2, 2))
		}
	}
	// Without a floor there are none below 0.
	for _, serial := range edges {
		got, changed, err := table.Put(api.GateState{}, 1, api.Entry{Cert: cert(serial)})
		if serial < 0 && (err != api.ErrFloor || changed || len(got.Rows) != 0) || serial >= 0 && (err != api.OK || !changed || len(got.Rows) != 1) {
			t.Errorf("P17.4: Put of serial %d: %v, %d", serial, changed, err)
		}
	}
}

// TestRaiseP17_5: to the floor that there is, one less and one more, to every row's serial and by it, above them all, and to the ends of an int.
func TestRaiseP17_5(t *testing.T) {
	for _, s := range states() {
		for _, n := range serials(s) {
			for _, v := range []byte{0, 1, 255} {
				behind := wantRaise(t, s, floor(n, v))
				wantRaise(t, behind, floor(n, 254))
				wantRaise(t, behind, floor(math.MaxInt, 1))
			}
		}
	}
	// Of floors with one number no signature is above another.
	s := state(floor(4, 1), 3, at(d, 1, 1))
	got, err := table.Raise(s, floor(4, 255))
	wantState(t, "P17.5: the same floor, another signature", got, err, s, api.ErrFloor)
	got, err = table.Raise(s, floor(5, 0))
	wantState(t, "P17.5: a higher floor, a lesser signature", got, err, state(floor(5, 0), 3, at(d, 1, 1)), api.OK)
	got, err = table.Raise(s, floor(6, 0))
	wantState(t, "P17.5: above all rows", got, err, state(floor(6, 0), 3), api.OK)
}

// TestByChanceP17_4: long runs of puts and floors, against the model.
func TestByChanceP17_4(t *testing.T) {
	r := chance(2)
	for range 300 {
		s := api.GateState{Accepted: r.IntN(5)}
		for range 60 {
			if r.IntN(20) == 0 {
				s = wantRaise(t, s, api.Floor{Floor: s.Floor.Floor + r.IntN(4) - 1, Sig: drawSig(r)})
				continue
			}
			e := drawEntry(r, cert(r.IntN(14)))
			if r.IntN(10) == 0 {
				e.Cert.Rides++
			}
			s = wantPut(t, s, r.IntN(10), e)
			for serial := -1; serial < 15; serial++ {
				want, there := bySerial(s.Rows)[serial]
				if got, ok := table.Find(s, serial); got != want || ok != there {
					t.Fatalf("P17.3: Find(%d) in %s = %s, %v", serial, short(s.Rows), brief(got), ok)
				}
			}
		}
	}
}

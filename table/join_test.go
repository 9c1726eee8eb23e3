package table_test

import (
	"math"
	"testing"

	"farebox/api"
	"farebox/table"
)

// wantJoinAll asks what the model says of two states, whichever comes first, and whether one covers the other.
func wantJoinAll(t *testing.T, a, b api.GateState) {
	t.Helper()
	want, wantErr := modelJoinAll(a, b)
	for _, p := range [][2]api.GateState{{a, b}, {b, a}} {
		got, err := table.JoinAll(p[0], p[1])
		wantState(t, "P17.6: JoinAll", got, err, want, wantErr)
		if covers := wantErr == api.OK && same(want, p[0]); table.CoversAll(p[0], p[1]) != covers {
			t.Errorf("P17.7: CoversAll of %s and %s is not %v", short(p[0].Rows), short(p[1].Rows), covers)
		}
	}
}

// TestExampleP17_6: the chapter's example, both ways.
func TestExampleP17_6(t *testing.T) {
	a := state(floor(4, 1), 2, at(d, 1, 1))
	b := state(api.Floor{}, 1, at(c, 2, 7), at(d, 3, 3))
	want := state(floor(4, 1), 2, at(d, 3, 3))
	got, err := table.JoinAll(a, b)
	wantState(t, "P17.6: example", got, err, want, api.OK)
	got, err = table.JoinAll(b, a)
	wantState(t, "P17.6: example, turned about", got, err, want, api.OK)
	if table.CoversAll(a, b) || table.CoversAll(b, a) || !table.CoversAll(want, a) || !table.CoversAll(want, b) || table.CoversAll(a, want) || table.CoversAll(b, want) {
		t.Error("P17.7: the example's states")
	}
}

// TestSharesP17_6: states that share no serial, some, and all; one ahead of the other, and one between the other's rows.
func TestSharesP17_6(t *testing.T) {
	rows := func(from, to, by int, index int) []api.Entry {
		var l []api.Entry
		for serial := from; serial < to; serial += by {
			l = append(l, at(cert(serial), index, byte(serial)))
		}
		return l
	}
	lists := [][]api.Entry{nil, {}, rows(1, 2, 1, 3), rows(1, 9, 1, 3), rows(1, 9, 1, 4), rows(1, 9, 2, 5), rows(2, 9, 2, 2), rows(20, 29, 1, 1), rows(5, 25, 3, 9), rows(0, 300, 1, 3), rows(0, 600, 1, 4)}
	for _, a := range lists {
		for _, b := range lists {
			wantJoinAll(t, state(api.Floor{}, 1, a...), state(api.Floor{}, 2, b...))
		}
	}
}

// TestFloorsP17_6: the floor whose number is greater, of one number the greater signature; it drops the rows of both that are below it.
func TestFloorsP17_6(t *testing.T) {
	rows := []api.Entry{at(cert(1), 1, 1), at(c, 2, 7), at(d, 3, 3), at(cert(7), 4, 4)}
	from := func(f api.Floor, accepted int) api.GateState {
		s := state(f, accepted)
		for _, e := range rows {
			if e.Cert.Serial >= f.Floor {
				s.Rows = append(s.Rows, e)
			}
		}
		return s
	}
	var floors []api.Floor
	for _, n := range []int{1, 2, 3, 4, 5, 7, 8, math.MaxInt} {
		for _, s := range []api.Sig{{}, {63: 1}, {0: 1}, {0: 128}} {
			floors = append(floors, api.Floor{Floor: n, Sig: s})
		}
	}
	floors = append(floors, api.Floor{})
	for _, f := range floors {
		for _, g := range floors {
			wantJoinAll(t, from(f, 1), from(g, 2))
			wantJoinAll(t, from(f, 3), state(g, 3))
			wantJoinAll(t, from(f, 0), state(g, 0, at(cert(max(g.Floor, 6)), 1, 1)))
		}
	}
}

// TestRefusedP17_6: one serial with two certificates is refused, wherever it stands; below the floor of either it is not asked.
func TestRefusedP17_6(t *testing.T) {
	rows := []api.Entry{at(cert(1), 1, 1), at(c, 2, 7), at(d, 3, 3), at(cert(7), 4, 4)}
	for i, row := range rows {
		for _, x := range others(row.Cert) {
			if x.Serial != row.Cert.Serial {
				continue
			}
			s, bad := state(api.Floor{}, 2, rows...), state(api.Floor{}, 5, at(x, 9, 9))
			wantJoinAll(t, s, bad)
			got, err := table.JoinAll(s, bad)
			wantState(t, "P17.6: another certificate", got, err, api.GateState{}, api.ErrOther)
			if table.CoversAll(s, bad) || table.CoversAll(bad, s) {
				t.Errorf("P17.7: a state covers another certificate of row %d", i)
			}
			for _, n := range []int{x.Serial, x.Serial + 1} {
				wantJoinAll(t, s, state(floor(n, 1), 0))
				wantJoinAll(t, bad, state(floor(n, 1), 0, rows[i+1:]...))
				raised, _ := modelRaise(s, floor(n, 1))
				wantJoinAll(t, raised, bad)
			}
			above, err := table.JoinAll(state(floor(x.Serial+1, 1), 1, rows[i+1:]...), bad)
			wantState(t, "P17.6: another certificate below the floor", above, err, state(floor(x.Serial+1, 1), 5, rows[i+1:]...), api.OK)
		}
	}
}

// TestAcceptedP17_6: the greater number is taken, whosever rows and floor are.
func TestAcceptedP17_6(t *testing.T) {
	for _, m := range []int{0, 1, 2, 1 << 40, math.MaxInt} {
		for _, n := range []int{0, 1, 2, 1 << 40, math.MaxInt} {
			wantJoinAll(t, state(floor(4, 1), m, at(d, 1, 1)), state(api.Floor{}, n, at(c, 2, 7), at(d, 3, 3)))
			wantJoinAll(t, state(api.Floor{}, m), state(api.Floor{}, n))
		}
	}
}

// TestCoversAllP17_7: what a state lacks of another is told for each thing that it may lack.
func TestCoversAllP17_7(t *testing.T) {
	full := state(floor(3, 5), 4, frozen(at(c, 2, 7), 1), at(d, 1, 1))
	for i, less := range []api.GateState{
		state(floor(3, 5), 3, full.Rows...), state(floor(2, 5), 4, full.Rows...), state(floor(2, 9), 4, full.Rows...), state(floor(3, 4), 4, full.Rows...),
		state(floor(3, 5), 4, full.Rows[:1]...), state(floor(3, 5), 4, full.Rows[1:]...), state(floor(3, 5), 4), {},
		state(floor(3, 5), 4, at(c, 2, 7), at(d, 1, 1)), state(floor(3, 5), 4, frozen(at(c, 1, 9), 1), at(d, 1, 1)), state(floor(3, 5), 4, frozen(at(c, 2, 7), 1), at(d, 1, 0)),
		state(api.Floor{}, 4, at(cert(1), 9, 9)),
	} {
		if !table.CoversAll(full, less) || table.CoversAll(less, full) || !table.CoversAll(less, less) {
			t.Errorf("P17.7: row %d", i)
		}
	}
	for i, other := range []api.GateState{
		state(api.Floor{}, 0, at(cert(4), 1, 1)), state(api.Floor{}, 5), state(floor(4, 1), 0), state(floor(3, 6), 0), state(api.Floor{}, 0, at(d, 2, 0)), state(api.Floor{}, 0, revoked(at(d, 0, 0), 0)),
	} {
		if table.CoversAll(full, other) || table.CoversAll(other, full) {
			t.Errorf("P17.7: row %d of those that know each something else", i)
		}
	}
	odd := at(d, 1, 1)
	odd.Freeze = sig(4)
	if s := state(api.Floor{}, 0, odd); table.CoversAll(s, s) || !table.CoversAll(s, api.GateState{}) {
		t.Error("P17.7: a row that may not be")
	}
}

// TestByChanceP17_6: pairs of states by chance, some with another certificate, against the model.
func TestByChanceP17_6(t *testing.T) {
	r := chance(3)
	for range 8000 {
		a, b := drawState(r, 0, 8), drawState(r, r.IntN(3), 4+r.IntN(8))
		if r.IntN(4) == 0 {
			b = askew(r, b)
		}
		wantJoinAll(t, a, b)
	}
}

package gossip_test

import (
	"math/rand/v2"
	"slices"
	"testing"

	"farebox/api"
	"farebox/gossip"
	"farebox/table"
)

// drawGates are gates with valid entries and floors, one certificate a serial.
func drawGates(t *testing.T, r *rand.Rand, n, serials int) []api.GateState {
	t.Helper()
	var gates []api.GateState
	for range n {
		var rows []api.Entry
		for serial := 1; serial <= serials; serial++ {
			if r.IntN(5) < 2 {
				rows = append(rows, drawEntry(r, serial))
			}
		}
		var f api.Floor
		if r.IntN(3) > 0 {
			f = floorAt(1 + r.IntN(serials/2+1))
		}
		gates = append(gates, state(t, f, r.IntN(50), rows...))
	}
	return gates
}

// joined is the join of all tables.
func joined(t *testing.T, gates []api.GateState) api.GateState {
	t.Helper()
	var all api.GateState
	for _, s := range gates {
		both, err := table.JoinAll(all, s)
		if err != api.OK {
			t.Fatalf("table.JoinAll: %d", err)
		}
		all = both
	}
	return all
}

// wantLostNothing asks that a table has all that it had, but what its floor took, and no more than both had.
func wantLostNothing(t *testing.T, had, other, has api.GateState) {
	t.Helper()
	if !table.CoversAll(has, had) {
		t.Fatalf("P20.5: %s has lost something: %s", brief(had), brief(has))
	}
	for _, row := range had.Rows {
		now, there := table.Find(has, row.Cert.Serial)
		if below := row.Cert.Serial < has.Floor.Floor; there == below || there && !table.Covers(now, row) {
			t.Fatalf("P20.5: of %s the row %d is lost: %s", brief(had), row.Cert.Serial, brief(has))
		}
	}
	if both := joined(t, []api.GateState{had, other}); !table.CoversAll(both, has) {
		t.Fatalf("P20.5: %s and %s come to more: %s", brief(had), brief(other), brief(has))
	}
}

// TestMeetingP20_5: behind a meeting nothing of the first gate is lacking to the second but what is below its floor, and the second has lost nothing but what the floor took.
func TestMeetingP20_5(t *testing.T) {
	r := chance(5)
	below := 0
	for range 60 {
		gates := drawGates(t, r, 2, 8)
		bound := len(joined(t, []api.GateState{{Rows: gates[0].Rows}, {Rows: gates[1].Rows}}).Rows)
		got := wantRounds(t, "a meeting", bound, gates, [2]int{1, 2})
		wantState(t, "P20.5: the first one", got[0], gates[0])
		for _, e := range gossip.Lacks(got[0], gossip.Digest(got[1])) {
			if e.Cert.Serial >= got[1].Floor.Floor {
				t.Fatalf("P20.5: serial %d is lacking to %s", e.Cert.Serial, brief(got[1]))
			}
			below++
		}
		wantLostNothing(t, gates[1], gates[0], got[1])
		if got[1].Accepted != gates[1].Accepted {
			t.Fatalf("P20.5: %d rides, had %d", got[1].Accepted, gates[1].Accepted)
		}
	}
	if below == 0 {
		t.Error("no row was below a floor")
	}
}

// wantAllTheSame asks that all gates have the floor and the rows of the join of all tables; each has its own rides.
func wantAllTheSame(t *testing.T, gates, got []api.GateState) {
	t.Helper()
	all := joined(t, gates)
	if len(got) != len(gates) {
		t.Fatalf("P20.5: %d gates, want %d", len(got), len(gates))
	}
	for i, s := range got {
		want := all
		want.Accepted = gates[i].Accepted
		wantState(t, "P20.5: all gates have met", s, want)
	}
}

// star are the meetings of every gate with the first, and then of the first with every one, in these orders of the others.
func star(in, out []int) [][2]int {
	var l [][2]int
	for _, n := range in {
		l = append(l, [2]int{n, 1})
	}
	for _, n := range out {
		l = append(l, [2]int{1, n})
	}
	return l
}

// TestAllOrdersP20_5: four gates with floors, flags and unlike indexes, in all orders of their meetings.
func TestAllOrdersP20_5(t *testing.T) {
	gates := []api.GateState{
		state(t, floorAt(2), 4, at(2, 1), at(3, 2), at(9, 1)),
		state(t, api.Floor{}, 3, at(1, 5), frozen(at(3, 1)), at(7, 0)),
		state(t, floorAt(3), 2, revoked(at(3, 0)), at(6, 3), at(9, 4)),
		{},
	}
	want := []api.Entry{revoked(frozen(at(3, 2))), at(6, 3), at(7, 0), at(9, 4)}
	orders([]int{2, 3, 4}, 0, func(in []int) {
		orders([]int{2, 3, 4}, 0, func(out []int) {
			got := wantRounds(t, "a star", plenty, gates, star(in, out)...)
			wantAllTheSame(t, gates, got)
			if got[0].Floor != floorAt(3) || !slices.Equal(got[0].Rows, want) {
				t.Fatalf("P20.5: %s", briefs(got))
			}
		})
	})
}

// TestByChanceP20_5: gates by chance in orders by chance, one and two among them, with further meetings ahead of the others, between and behind them.
func TestByChanceP20_5(t *testing.T) {
	r := chance(6)
	for i := range 50 {
		n := 1 + i%5
		gates := drawGates(t, r, n, 7)
		others := func() []int {
			l := r.Perm(n)
			l = slices.DeleteFunc(l, func(x int) bool { return x == 0 })
			for i := range l {
				l[i]++
			}
			return l
		}
		meetings := star(others(), others())
		wantAllTheSame(t, gates, wantRounds(t, "by chance", plenty, gates, meetings...))
		for range 3 {
			if n < 2 {
				break
			}
			pair := r.Perm(n)
			meetings = slices.Insert(meetings, r.IntN(len(meetings)+1), [2]int{pair[0] + 1, pair[1] + 1})
		}
		wantAllTheSame(t, gates, wantRounds(t, "further meetings", plenty, gates, meetings...))
	}
}

// TestJustEnoughP20_5: the room that all rows need at once is enough; with one row less some are lacking, and no gate has lost anything.
func TestJustEnoughP20_5(t *testing.T) {
	gates := []api.GateState{knows(t, at(2, 1), at(5, 3)), knows(t, frozen(at(5, 1)), at(7, 2)), knows(t, at(1, 1), revoked(at(2, 0)))}
	meetings := star([]int{2, 3}, []int{3, 2})
	wantAllTheSame(t, gates, wantRounds(t, "just enough", 4, gates, meetings...))
	all := joined(t, gates)
	for bound := range 4 {
		for i, s := range wantRounds(t, "too little", bound, gates, meetings...) {
			wantLostNothing(t, gates[i], all, s)
			if len(s.Rows) == 4 || len(s.Rows) > max(bound, len(gates[i].Rows)) {
				t.Errorf("P20.5: a bound of %d: %s", bound, brief(s))
			}
		}
	}
}

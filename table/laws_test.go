package table_test

import (
	"slices"
	"testing"

	"farebox/api"
	"farebox/table"
)

// smallEntries are all entries that may be of one certificate, with few indexes, values and signatures.
func smallEntries(x api.Cert) []api.Entry {
	const down = 3 // 0 to 2: the flag is up, with such a signature
	var l []api.Entry
	for n := range 2 * 2 * 4 * 4 {
		e := at(x, n%2, byte(n/2%2))
		if v := n / 4 % 4; v != down {
			e = frozen(e, byte(v))
		}
		if v := n / 16; v != down {
			e = revoked(e, byte(v))
		}
		l = append(l, e)
	}
	return l
}

// smallStates are all made states of few floors, numbers and rows.
func smallStates() []api.GateState {
	rows := func(serial int) [][]api.Entry {
		x := cert(serial)
		return [][]api.Entry{nil, {at(x, 1, 2)}, {at(x, 2, 1)}, {frozen(at(x, 1, 2), 0)}, {revoked(at(x, 1, 3), 1)}}
	}
	var l []api.GateState
	for _, f := range []api.Floor{{}, floor(4, 1), floor(4, 2)} {
		for accepted := range 2 {
			for _, low := range rows(3) {
				for _, high := range rows(4)[:4] {
					if f.Floor <= 3 || low == nil {
						l = append(l, state(f, accepted, slices.Concat(low, high)...))
					}
				}
			}
		}
	}
	return l
}

// join is the join of entries of one certificate.
func join(t *testing.T, a, b api.Entry) api.Entry {
	got, err := table.Join(a, b)
	if err != api.OK {
		t.Fatalf("P17.8: Join of %s and %s: %d", brief(a), brief(b), err)
	}
	return got
}

// joinAll is the join of states that have one certificate a serial.
func joinAll(t *testing.T, a, b api.GateState) api.GateState {
	got, err := table.JoinAll(a, b)
	if err != api.OK {
		t.Fatalf("P17.8: JoinAll of %s and %s: %d", short(a.Rows), short(b.Rows), err)
	}
	return got
}

// wantLattice asks that a join turns about, brackets as one likes and is the thing itself of one with itself, that covers is an order, and that the join is the least that covers both.
func wantLattice[T any](t *testing.T, things []T, join func(a, b T) T, covers func(a, b T) bool, same func(a, b T) bool) {
	t.Helper()
	n := len(things)
	joined, above := make([]T, n*n), make([]bool, n*n)
	for i, a := range things {
		for j, b := range things {
			joined[i*n+j], above[i*n+j] = join(a, b), covers(a, b)
		}
	}
	for i, a := range things {
		if !same(joined[i*n+i], a) || !above[i*n+i] {
			t.Fatalf("P17.8: thing %d with itself", i)
		}
		for j, b := range things {
			both := joined[i*n+j]
			if !same(both, joined[j*n+i]) || !covers(both, a) || !covers(both, b) {
				t.Fatalf("P17.8: things %d and %d", i, j)
			}
			if i != j && above[i*n+j] && above[j*n+i] {
				t.Fatalf("P17.8: things %d and %d cover each other", i, j)
			}
			for k, c := range things {
				if !same(join(both, c), join(a, joined[j*n+k])) {
					t.Fatalf("P17.8: things %d, %d and %d are bracketed", i, j, k)
				}
				if above[k*n+i] && above[k*n+j] && !covers(c, both) {
					t.Fatalf("P17.8: thing %d covers %d and %d, and not their join", k, i, j)
				}
				if above[i*n+j] && above[j*n+k] && !above[i*n+k] {
					t.Fatalf("P17.8: things %d, %d and %d are out of order", i, j, k)
				}
			}
		}
	}
}

// TestEntriesP17_8: the laws on all small entries.
func TestEntriesP17_8(t *testing.T) {
	wantLattice(t, smallEntries(c), func(a, b api.Entry) api.Entry { return join(t, a, b) }, table.Covers, func(a, b api.Entry) bool { return a == b })
}

// TestStatesP17_8: the laws on all small states.
func TestStatesP17_8(t *testing.T) {
	wantLattice(t, smallStates(), func(a, b api.GateState) api.GateState { return joinAll(t, a, b) }, table.CoversAll, same)
}

// TestStatesByChanceP17_8: the laws on greater states, by chance.
func TestStatesByChanceP17_8(t *testing.T) {
	r := chance(4)
	for range 3000 {
		a, b, c := drawState(r, 0, 8), drawState(r, 2, 10), drawState(r, 0, 9)
		both := joinAll(t, a, b)
		if !same(joinAll(t, a, a), a) || !same(both, joinAll(t, b, a)) || !same(joinAll(t, both, c), joinAll(t, a, joinAll(t, b, c))) {
			t.Fatalf("P17.8: %s, %s and %s", short(a.Rows), short(b.Rows), short(c.Rows))
		}
		all := joinAll(t, both, c)
		for _, s := range []api.GateState{a, b, c, both, {}} {
			if !table.CoversAll(all, s) || table.CoversAll(s, all) != same(s, all) {
				t.Fatalf("P17.8: the join of %s, %s and %s, beside %s", short(a.Rows), short(b.Rows), short(c.Rows), short(s.Rows))
			}
		}
	}
}

// TestCoversWhatWasP17_8: what Put and Raise answer covers the state that they were handed, refused or not.
func TestCoversWhatWasP17_8(t *testing.T) {
	for _, s := range smallStates() {
		for serial := 2; serial <= 5; serial++ {
			for _, e := range smallEntries(cert(serial)) {
				for rows := range 4 {
					got, changed, err := table.Put(s, rows, e)
					if !table.CoversAll(got, s) || table.CoversAll(s, got) == changed {
						t.Fatalf("P17.8: Put of %s into %s comes to %s", brief(e), short(s.Rows), short(got.Rows))
					}
					if err != api.OK {
						continue
					}
					if row, there := table.Find(got, serial); !there || !table.Covers(row, e) {
						t.Fatalf("P17.8: Put of %s into %s comes to %s", brief(e), short(s.Rows), short(got.Rows))
					}
				}
			}
		}
		for n := -1; n <= 6; n++ {
			got, err := table.Raise(s, floor(n, 1))
			if !table.CoversAll(got, s) || table.CoversAll(s, got) != (err != api.OK) {
				t.Fatalf("P17.8: Raise to %d of %s comes to %s", n, short(s.Rows), short(got.Rows))
			}
		}
	}
}

// orders calls a function with all orders of a list.
func orders(l []api.Entry, at int, tell func(l []api.Entry)) {
	if at == len(l) {
		tell(l)
		return
	}
	for i := at; i < len(l); i++ {
		l[at], l[i] = l[i], l[at]
		orders(l, at+1, tell)
		l[at], l[i] = l[i], l[at]
	}
}

// putAll puts entries one behind the other; all must be taken.
func putAll(t *testing.T, s api.GateState, rows int, l []api.Entry) api.GateState {
	t.Helper()
	for _, e := range l {
		next, _, err := table.Put(s, rows, e)
		if err != api.OK {
			t.Fatalf("P17.8: Put of %s into %s: %d", brief(e), short(s.Rows), err)
		}
		s = next
	}
	return s
}

// TestOrdersP17_8: entries come to the same rows in every order, with no more room than they need.
func TestOrdersP17_8(t *testing.T) {
	x := cert(9)
	lists := [][]api.Entry{
		{at(c, 2, 7), at(d, 1, 1), at(c, 4, 1), frozen(at(c, 1, 1), 5), revoked(at(d, 0, 0), 0)},
		{frozen(at(c, 1, 1), 5), frozen(at(c, 1, 1), 6), revoked(at(c, 1, 2), 5), revoked(at(c, 0, 9), 6), at(c, 2, 0)},
		{at(x, 1, 1), at(d, 1, 1), at(c, 1, 1), at(d, 1, 2), frozen(at(x, 0, 0), 0), at(c, 1, 0)},
	}
	want := [][]api.Entry{
		{frozen(at(c, 4, 1), 5), revoked(at(d, 1, 1), 0)},
		{revoked(frozen(at(c, 2, 0), 6), 6)},
		{at(c, 1, 1), at(d, 1, 2), frozen(at(x, 1, 1), 0)},
	}
	for i, l := range lists {
		begin := state(floor(3, 8), 4)
		orders(l, 0, func(l []api.Entry) {
			once := putAll(t, begin, len(want[i]), l)
			wantState(t, "P17.8: an order", once, api.OK, state(begin.Floor, 4, want[i]...), api.OK)
			again := putAll(t, once, 0, l)
			wantState(t, "P17.8: once more", again, api.OK, once, api.OK)
		})
	}
}

// TestHoweverOftenP17_8: entries by chance, in orders by chance and some of them many times, come to the join of the tables that have one each.
func TestHoweverOftenP17_8(t *testing.T) {
	r := chance(5)
	for range 400 {
		begin := drawState(r, 0, 6)
		var l []api.Entry
		want := begin
		for range 1 + r.IntN(12) {
			e := drawEntry(r, cert(begin.Floor.Floor+r.IntN(6)))
			l = append(l, e)
			want = joinAll(t, want, state(api.Floor{}, 0, e))
		}
		for range 6 {
			l = append(l, l[r.IntN(len(l))])
			r.Shuffle(len(l), func(i, j int) { l[i], l[j] = l[j], l[i] })
			got := putAll(t, begin, len(want.Rows), l)
			wantState(t, "P17.8: however often", got, api.OK, want, api.OK)
		}
	}
}

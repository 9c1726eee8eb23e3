package table_test

import (
	"math"
	"math/rand/v2"
	"slices"
	"testing"

	"farebox/api"
	"farebox/table"
)

// handed is a state whose rows have others ahead of them and behind them in their memory, and all of that memory.
func handed(s api.GateState) (out api.GateState, all []api.Entry) {
	all = slices.Concat([]api.Entry{at(c, 8, 8), at(d, 8, 8)}, s.Rows, []api.Entry{at(cert(900), 1, 1), at(c, 9, 9)}, make([]api.Entry, 6))
	s.Rows = all[2 : 2+len(s.Rows)]
	return s, all
}

// wreck writes over rows and over their spare room, and over what is laid behind them.
func wreck(rows []api.Entry) {
	more := append(rows, at(cert(77), 7, 7))
	for _, l := range [][]api.Entry{more[:cap(more)], rows[:cap(rows)]} {
		for i := range l {
			l[i] = frozen(at(cert(-i), i, 99), 98)
		}
	}
}

// answers are the states that the calls answer of two states, refused ones among them.
func answers(a, b api.GateState) []api.GateState {
	var l []api.GateState
	put := func(s api.GateState, rows int, e api.Entry) {
		got, _, _ := table.Put(s, rows, e)
		l = append(l, got)
	}
	for _, s := range []api.GateState{a, b} {
		for serial := -1; serial < 10; serial++ {
			e := revoked(at(cert(serial), 50, 1), 1)
			put(s, 100, e)
			put(s, 100, api.Entry{Cert: e.Cert})
			put(s, 0, e)
			e.Cert.Price++
			put(s, 100, e)
			raised, _ := table.Raise(s, floor(serial, 3))
			l = append(l, raised)
		}
	}
	for _, p := range [][2]api.GateState{{a, b}, {b, a}, {a, a}, {b, b}, {a, {}}, {{}, b}} {
		both, _ := table.JoinAll(p[0], p[1])
		l = append(l, both)
	}
	return l
}

// TestHandedIn: what is handed in is left as it is, what lies beside its rows in their memory too, whatever is done to the answers; and the answers share nothing with one another.
func TestHandedIn(t *testing.T) {
	r := chance(6)
	for range 60 {
		a, around := handed(drawState(r, 0, 9))
		b, beside := handed(drawState(r, 0, 9))
		was, were := slices.Clone(around), slices.Clone(beside)
		want := answers(state(a.Floor, a.Accepted, slices.Clone(a.Rows)...), state(b.Floor, b.Accepted, slices.Clone(b.Rows)...))
		for i, got := range answers(a, b) {
			if !same(got, want[i]) {
				t.Fatalf("answer %d hangs on what lies behind the rows", i)
			}
		}
		got := answers(a, b)
		for i := range got {
			if !same(got[i], want[i]) {
				t.Fatalf("answer %d is changed by what was done to another", i)
			}
			wreck(got[i].Rows)
			for serial := range 10 {
				table.Find(a, serial)
			}
			table.CoversAll(a, b)
			table.CoversAll(b, a)
			if !slices.Equal(around, was) || !slices.Equal(beside, were) {
				t.Fatalf("answer %d shares memory with what was handed in", i)
			}
		}
	}
}

// TestNotKept: what is done to the rows behind a call changes no answer.
func TestNotKept(t *testing.T) {
	r := chance(7)
	for range 60 {
		a, b := drawState(r, 0, 9), drawState(r, 0, 9)
		x, y := state(a.Floor, a.Accepted, slices.Clone(a.Rows)...), state(b.Floor, b.Accepted, slices.Clone(b.Rows)...)
		want, got := answers(a, b), answers(x, y)
		wreck(x.Rows)
		wreck(y.Rows)
		for i := range got {
			if !same(got[i], want[i]) {
				t.Fatalf("answer %d changes with what was handed in", i)
			}
		}
	}
}

// TestSharedRows: two states may be pieces of one memory, one behind the other or over each other.
func TestSharedRows(t *testing.T) {
	r := chance(8)
	var all []api.Entry
	for serial := range 12 {
		all = append(all, drawEntry(r, cert(serial)))
	}
	was := slices.Clone(all)
	for i := range all {
		for j := range all[i:] {
			for k := range all {
				a, b := state(api.Floor{}, 1, all[i:i+j]...), state(api.Floor{}, 2, all[k:]...)
				wantJoinAll(t, a, b)
				wantPut(t, a, 99, at(cert(k), 3, 3))
				if !slices.Equal(all, was) {
					t.Fatalf("the rows %d to %d, or those from %d on, are changed", i, i+j, k)
				}
			}
		}
	}
}

// TestAnswersGoOn: a state that was answered goes on as it was, whatever is made of it: two puts of one state know nothing of each other.
func TestAnswersGoOn(t *testing.T) {
	s := api.GateState{}
	for serial := 0; serial < 100; serial += 2 {
		s, _, _ = table.Put(s, 100, at(cert(serial), 1, 1))
		was := state(s.Floor, s.Accepted, slices.Clone(s.Rows)...)
		for _, n := range []int{-1, 1, 3, serial, serial + 1, serial + 2, serial + 3} {
			one := wantPut(t, s, 100, at(cert(n), 2, 2))
			two := wantPut(t, s, 100, at(cert(n), 3, 3))
			want, _, _ := modelPut(was, 100, at(cert(n), 2, 2))
			if !same(one, want) || !same(s, was) {
				t.Fatalf("a put of %d into %d rows is seen elsewhere", n, len(s.Rows))
			}
			wreck(two.Rows)
			if !same(one, want) || !same(s, was) {
				t.Fatalf("a put of %d into %d rows shares memory", n, len(s.Rows))
			}
		}
	}
}

// TestNilIsEmpty: nil, empty, and empty with room behind it are the same.
func TestNilIsEmpty(t *testing.T) {
	room := []api.Entry{at(c, 1, 1), at(d, 1, 1)}
	for _, rows := range [][]api.Entry{nil, {}, room[:0], room[1:1], make([]api.Entry, 0, 9)} {
		s := api.GateState{Floor: floor(2, 1), Accepted: 3, Rows: rows}
		if e, ok := table.Find(s, 3); ok || e != (api.Entry{}) {
			t.Errorf("P17.3: Find in nothing = %s, %v", brief(e), ok)
		}
		wantPut(t, s, 1, at(c, 2, 2))
		wantPut(t, s, 0, at(c, 2, 2))
		wantPut(t, s, 1, at(cert(1), 2, 2))
		wantRaise(t, s, floor(2, 1))
		wantRaise(t, s, floor(3, 1))
		wantJoinAll(t, s, state(api.Floor{}, 1, room...))
		wantJoinAll(t, s, api.GateState{})
		for _, none := range [][]api.Entry{nil, {}, room[:0]} {
			other := s
			other.Rows = none
			if !table.CoversAll(s, other) || !table.CoversAll(other, s) {
				t.Error("P17.7: nil and empty rows are not the same")
			}
		}
		wreck(wantPut(t, s, 0, at(c, 2, 2)).Rows)
		if room[0] != at(c, 1, 1) || room[1] != at(d, 1, 1) {
			t.Fatal("what lies behind no rows is changed")
		}
	}
}

// unmade is a state that no calls made: rows out of order, serials twice, rows below the floor, numbers from all of an int.
func unmade(r *rand.Rand) api.GateState {
	number := func() int {
		if r.IntN(3) == 0 {
			return edges[r.IntN(len(edges))]
		}
		return r.IntN(9) - 2
	}
	s := api.GateState{Floor: api.Floor{Floor: number(), Sig: drawSig(r)}, Accepted: number()}
	for range r.IntN(12) {
		e := drawEntry(r, cert(number()))
		e.Index, e.Freeze = number(), drawSig(r)
		s.Rows = append(s.Rows, e)
	}
	return s
}

// TestUnmadeStates: of states that are not made every call ends, and none panics, changes what it is handed, or shares its memory.
func TestUnmadeStates(t *testing.T) {
	r := chance(9)
	for range 500 {
		a, around := handed(unmade(r))
		b, beside := handed(unmade(r))
		was, were := slices.Clone(around), slices.Clone(beside)
		for _, got := range answers(a, b) {
			wreck(got.Rows)
		}
		for _, n := range append(edges, 3, 4, 5) {
			table.Find(a, n)
			got, _, _ := table.Put(a, n, at(cert(n), n, 1))
			wreck(got.Rows)
			got, _ = table.Raise(a, floor(n, 1))
			wreck(got.Rows)
		}
		table.CoversAll(a, b)
		table.CoversAll(b, a)
		if !slices.Equal(around, was) || !slices.Equal(beside, were) {
			t.Fatal("a state that is not made is changed")
		}
	}
}

// TestManyRows: tables far above the bound of a gate are joined, and put into, all the same.
func TestManyRows(t *testing.T) {
	var even, odd, all []api.Entry
	for serial := range 4000 {
		e := at(cert(serial), 1, 1)
		all = append(all, e)
		if serial%2 == 0 {
			even = append(even, e)
		} else {
			odd = append(odd, e)
		}
	}
	got, err := table.JoinAll(state(api.Floor{}, 1, even...), state(api.Floor{}, 2, odd...))
	wantState(t, "P17.6: many rows", got, err, state(api.Floor{}, 2, all...), api.OK)
	for _, serial := range []int{0, 1, 1999, 2000, 3999} {
		if e, ok := table.Find(got, serial); e != all[serial] || !ok {
			t.Errorf("P17.3: Find(%d) of many = %s, %v", serial, brief(e), ok)
		}
	}
	wantPut(t, got, math.MaxInt, at(cert(4000), 1, 1))
	wantPut(t, got, 4000, at(cert(4000), 1, 1))
	wantRaise(t, got, floor(3000, 1))
}

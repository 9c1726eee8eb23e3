package gossip_test

import (
	"math"
	"slices"
	"testing"

	"farebox/api"
	"farebox/gossip"
	"farebox/table"
)

// TestExamplesP20: the chapter's examples, row by row.
func TestExamplesP20(t *testing.T) {
	c, d := at(3, 2), frozen(at(5, 1))
	s := knows(t, d, c)
	if got := gossip.Digest(s); !slices.Equal(got, []api.Summary{short(3, 2, false, false), short(5, 1, true, false)}) {
		t.Errorf("P20.1: Digest = %v", got)
	}
	for i, x := range []struct {
		has  []api.Summary
		want []api.Entry
	}{
		{nil, []api.Entry{c, d}},
		{[]api.Summary{{Serial: 3, Index: 2}, {Serial: 5, Index: 4}}, []api.Entry{d}},
		{[]api.Summary{{Serial: 3, Index: 1}, {Serial: 3, Index: 2}, {Serial: 5, Index: 0}, {Serial: 5, Index: 1}, short(5, 0, true, false)}, nil},
		{[]api.Summary{short(3, 9, true, true), short(5, 9, true, true), {Serial: 8, Index: 1}}, nil},
	} {
		if got := gossip.Lacks(s, x.has); !slices.Equal(got, x.want) {
			t.Errorf("P20.2: example %d: %d rows, want %d", i, len(got), len(x.want))
		}
	}
	after, errs := gossip.Exchange(keys(), 8, api.GateState{}, []api.Entry{unsigned(c), d})
	if !slices.Equal(errs, []api.Errno{api.ErrSign, api.OK}) || !slices.Equal(after.Rows, []api.Entry{d}) {
		t.Errorf("P20.3: Exchange = %v, %s", errs, brief(after))
	}
	two := []api.GateState{s, knows(t, at(9, 1))}
	for _, m := range [][2]int{{1, 3}, {0, 1}, {2, 2}} {
		if got, err := gossip.Rounds(keys(), 8, two, [][2]int{m}); err != api.ErrArg || len(got) != 0 {
			t.Errorf("P20.4: Rounds with the meeting %v = %s, %d", m, briefs(got), err)
		}
	}
	got, err := gossip.Rounds(keys(), 8, two, nil)
	if err != api.OK {
		t.Errorf("P20.4: Rounds with no meetings: %d", err)
	}
	wantStates(t, "P20.4: Rounds with no meetings", got, two)
}

// TestDigestP20_1: each flag, indexes from 0 to all rides, in the rows' order, whatever the floor and the rides are.
func TestDigestP20_1(t *testing.T) {
	rows := []api.Entry{revoked(frozen(at(40, 5))), at(2, 0), revoked(at(30, 3)), frozen(at(9, 2)), at(300, 1), revoked(frozen(at(1, 0)))}
	want := []api.Summary{short(1, 0, true, true), short(2, 0, false, false), short(9, 2, true, false), short(30, 3, false, true), short(40, 5, true, true), short(300, 1, false, false)}
	if got := gossip.Digest(state(t, api.Floor{}, 7, rows...)); !slices.Equal(got, want) {
		t.Errorf("P20.1: Digest = %v, want %v", got, want)
	}
	if got := gossip.Digest(state(t, floorAt(9), 7, rows...)); !slices.Equal(got, want[2:]) {
		t.Errorf("P20.1: Digest behind a floor = %v, want %v", got, want[2:])
	}
	if got := gossip.Digest(state(t, floorAt(301), 7, rows...)); len(got) != 0 {
		t.Errorf("P20.1: Digest behind a floor above all = %v", got)
	}
}

// TestNoRowsP20_1P20_2: of a state without rows there is nothing to tell, and nothing is lacking to anybody.
func TestNoRowsP20_1P20_2(t *testing.T) {
	room := []api.Entry{at(3, 1), at(4, 1)}
	for _, rows := range [][]api.Entry{nil, {}, room[:0], room[1:1]} {
		for _, s := range []api.GateState{{Rows: rows}, {Floor: floorAt(9), Accepted: 4, Rows: rows}} {
			if got := gossip.Digest(s); len(got) != 0 {
				t.Errorf("P20.1: Digest of no rows = %v", got)
			}
			wantLacks(t, "no rows, no summaries", s, nil)
			wantLacks(t, "no rows", s, []api.Summary{{}, {Serial: 3}, {Serial: 3, Index: 1, Frozen: true}, {Serial: 9, Revoked: true}})
		}
	}
}

// TestNothingToldP20_2: a row that says next to nothing is lacking to who has nothing of its serial, and to nobody else.
func TestNothingToldP20_2(t *testing.T) {
	s := knows(t, at(3, 0))
	for _, none := range [][]api.Summary{nil, {}, make([]api.Summary, 0, 4)} {
		wantLacks(t, "no summaries", s, none, 3)
	}
	wantLacks(t, "of others alone", s, []api.Summary{{}, short(2, 5, true, true), short(4, 5, true, true), short(-3, 5, true, true), short(math.MaxInt, 5, true, true), short(3+1<<32, 5, true, true)}, 3)
	wantLacks(t, "index 0", s, []api.Summary{{Serial: 3}})
	wantLacks(t, "index 0, behind others", s, []api.Summary{short(2, 5, true, true), {Serial: 3}})
	wantLacks(t, "an index below 0", s, []api.Summary{short(3, -1, true, true)}, 3)
}

// TestIndexP20_2: an index that is as great as the row's, one less, one more, and those by the ends of an int.
func TestIndexP20_2(t *testing.T) {
	for index := range 6 {
		for _, row := range []api.Entry{at(3, index), frozen(at(3, index)), revoked(at(3, index)), revoked(frozen(at(3, index)))} {
			s := knows(t, at(2, 1), row, at(4, 1))
			for _, n := range append([]int{index - 1, index, index + 1, 3, 4, 5}, edges...) {
				has := []api.Summary{short(3, n, row.Frozen, row.Revoked), {Serial: 2, Index: 1}, {Serial: 4, Index: 1}}
				if n < index {
					wantLacks(t, "a lesser index", s, has, 3)
				} else {
					wantLacks(t, "an index that is not less", s, has)
				}
			}
		}
	}
}

// TestFlagsP20_2: all flags of a row beside all flags that are told: one that the row has not counts for nothing, and neither stands for the other.
func TestFlagsP20_2(t *testing.T) {
	for _, row := range []api.Entry{at(3, 2), frozen(at(3, 2)), revoked(at(3, 2)), revoked(frozen(at(3, 2)))} {
		for _, x := range []api.Summary{short(3, 2, false, false), short(3, 2, true, false), short(3, 2, false, true), short(3, 2, true, true)} {
			for _, index := range []int{2, 3, 9} {
				x.Index = index
				var want []int
				if row.Frozen && !x.Frozen || row.Revoked && !x.Revoked {
					want = []int{3}
				}
				wantLacks(t, "flags", knows(t, row), []api.Summary{x}, want...)
			}
			x.Index = 1
			wantLacks(t, "flags, and a lesser index", knows(t, row), []api.Summary{x}, 3)
		}
	}
}

// orders calls a function with all orders of a list.
func orders[T any](l []T, at int, tell func(l []T)) {
	if at == len(l) {
		tell(l)
		return
	}
	for i := at; i < len(l); i++ {
		l[at], l[i] = l[i], l[at]
		orders(l, at+1, tell)
		l[at], l[i] = l[i], l[at]
	}
}

// TestTogetherP20_2: the index is told by one summary, Frozen by another, Revoked by a third: only all three are enough, in whatever order and however often.
func TestTogetherP20_2(t *testing.T) {
	s := knows(t, revoked(frozen(at(3, 3))))
	parts := []api.Summary{short(3, 3, false, false), short(3, -1, true, false), short(3, 2, false, true), short(4, 5, true, true)}
	for set := range 1 << len(parts) {
		var has []api.Summary
		for i, x := range parts {
			if set&(1<<i) != 0 {
				has = append(has, x)
			}
		}
		want := []int{3}
		if set&7 == 7 {
			want = nil
		}
		orders(has, 0, func(l []api.Summary) {
			wantLacks(t, "together", s, l, want...)
			wantLacks(t, "twice", s, slices.Concat(l, l), want...)
		})
	}
	wantLacks(t, "more, told behind less", s, []api.Summary{short(3, 9, true, true), {Serial: 3}, {Serial: 3, Index: -9}})
	wantLacks(t, "indexes do not add up", s, []api.Summary{short(3, 1, true, true), short(3, 2, true, true), short(3, 2, true, true)}, 3)
	wantLacks(t, "nor go from serial to serial", knows(t, frozen(at(3, 1)), frozen(at(4, 1))), []api.Summary{short(3, 1, true, false), short(4, 1, false, false)}, 4)
}

// TestOrderP20_2: what is lacking is told in the rows' order, whatever the order of the summaries, each row once.
func TestOrderP20_2(t *testing.T) {
	var rows []api.Entry
	for serial := 40; serial > 0; serial-- {
		rows = append(rows, at(serial, serial%6))
	}
	s := knows(t, rows...)
	r := chance(1)
	for range 30 {
		var has []api.Summary
		var want []int
		for serial := 1; serial <= 40; serial++ {
			if r.IntN(2) == 0 {
				has = append(has, api.Summary{Serial: serial, Index: serial % 6}, api.Summary{Serial: serial})
			} else {
				want = append(want, serial)
			}
		}
		r.Shuffle(len(has), func(i, j int) { has[i], has[j] = has[j], has[i] })
		wantLacks(t, "in the rows' order", s, has, want...)
	}
	if got := gossip.Lacks(s, nil); !slices.Equal(got, s.Rows) {
		t.Error("P20.2: to who has nothing all rows are lacking, as they stand")
	}
	wantLacks(t, "who tells a digest of it", s, gossip.Digest(s))
}

// TestByChanceP20_2: rows and summaries by chance, against the model.
func TestByChanceP20_2(t *testing.T) {
	r := chance(2)
	met := map[int]int{}
	for range 3000 {
		var s api.GateState
		for serial := 1; serial <= 5; serial++ {
			if r.IntN(4) > 0 {
				s, _, _ = table.Put(s, plenty, drawEntry(r, serial))
			}
		}
		var has []api.Summary
		for range r.IntN(12) {
			has = append(has, api.Summary{Serial: 1 + r.IntN(6), Index: r.IntN(8) - 1, Frozen: r.IntN(2) == 0, Revoked: r.IntN(2) == 0})
		}
		got := gossip.Lacks(s, has)
		if !slices.Equal(got, modelLacks(s, has)) {
			t.Fatalf("P20.2: Lacks of %s with %v: %d rows, want %d", brief(s), has, len(got), len(modelLacks(s, has)))
		}
		if !slices.Equal(gossip.Digest(s), modelDigest(s)) {
			t.Fatalf("P20.1: Digest of %s = %v", brief(s), gossip.Digest(s))
		}
		met[len(got)]++
	}
	if len(met) != 6 {
		t.Errorf("so many rows were lacking: %v", met)
	}
}

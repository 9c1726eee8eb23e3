package gossip_test

import (
	"math/rand/v2"
	"slices"
	"testing"

	"farebox/api"
	"farebox/gossip"
)

// stray is a row that stands in no state.
var stray = api.Entry{Cert: api.Cert{Serial: 77, Rides: 9}, Index: 9, Frozen: true, Revoked: true}

// framed is a list with others ahead of it and behind it in its memory, and all of that memory.
func framed[T any](list []T, with T) (piece, whole []T) {
	whole = slices.Concat([]T{with, with}, list, []T{with, with, with, with})
	return whole[2 : 2+len(list)], whole
}

// wreck writes over a list, over its spare room, and over what is laid behind it.
func wreck[T any](list []T, with T) {
	more := append(list, with)
	for _, l := range [][]T{more[:cap(more)], list[:cap(list)]} {
		for i := range l {
			l[i] = with
		}
	}
}

func wreckStates(list []api.GateState) {
	for _, s := range list {
		wreck(s.Rows, stray)
	}
	wreck(list, api.GateState{Accepted: 99, Rows: []api.Entry{stray}})
}

// given is all that is handed in to the calls, in memory of which all is known.
type given struct {
	keys     api.Ring
	gates    []api.GateState
	entries  []api.Entry
	has      []api.Summary
	meetings [][2]int

	ringAll     []api.Key
	rowsAll     [][]api.Entry
	gatesAll    []api.GateState
	entriesAll  []api.Entry
	hasAll      []api.Summary
	meetingsAll [][2]int
}

// drawGiven is gates of which one is refused nearly everything, with entries, summaries and meetings.
func drawGiven(t *testing.T, r *rand.Rand) *given {
	t.Helper()
	g := &given{keys: keys()}
	g.keys.Gates, g.ringAll = framed(keys().Gates, api.Key{7})
	var gates []api.GateState
	for _, s := range append(drawGates(t, r, 3, 6), knows(t, other(3, 1), unsigned(at(4, 1)))) {
		var whole []api.Entry
		s.Rows, whole = framed(s.Rows, stray)
		gates, g.rowsAll = append(gates, s), append(g.rowsAll, whole)
	}
	g.gates, g.gatesAll = framed(gates, api.GateState{Accepted: 77})
	g.entries, g.entriesAll = framed([]api.Entry{drawEntry(r, 3), other(4, 2), {}, unsigned(at(2, 1)), drawEntry(r, 6), drawEntry(r, 3)}, stray)
	g.has, g.hasAll = framed([]api.Summary{short(3, 1, false, false), short(3, 0, true, true), short(5, 9, true, true)}, short(6, 9, true, true))
	g.meetings, g.meetingsAll = framed([][2]int{{1, 2}, {4, 2}, {2, 3}, {3, 4}, {2, 1}}, [2]int{9, 9})
	return g
}

// copied is the same in memory of its own.
func (g *given) copied() *given {
	c := &given{keys: g.keys, ringAll: slices.Clone(g.ringAll), entriesAll: slices.Clone(g.entriesAll), hasAll: slices.Clone(g.hasAll), meetingsAll: slices.Clone(g.meetingsAll), gatesAll: slices.Clone(g.gatesAll)}
	for _, rows := range g.rowsAll {
		c.rowsAll = append(c.rowsAll, slices.Clone(rows))
	}
	return c
}

// sameAs tells whether all the memory is as another has it.
func (g *given) sameAs(c *given) bool {
	return slices.Equal(g.ringAll, c.ringAll) && slices.Equal(g.entriesAll, c.entriesAll) && slices.Equal(g.hasAll, c.hasAll) && slices.Equal(g.meetingsAll, c.meetingsAll) &&
		slices.EqualFunc(g.rowsAll, c.rowsAll, slices.Equal[[]api.Entry]) && slices.EqualFunc(g.gatesAll, c.gatesAll, same)
}

// ruin writes over all of the memory.
func (g *given) ruin() {
	wreck(g.ringAll, api.Key{9})
	wreck(g.entriesAll, stray)
	wreck(g.hasAll, short(1, 9, true, true))
	wreck(g.meetingsAll, [2]int{8, 8})
	for _, rows := range g.rowsAll {
		wreck(rows, stray)
	}
	wreck(g.gatesAll, api.GateState{Accepted: 88})
}

// answers are what all calls answer.
type answers struct {
	digest  []api.Summary
	lacking []api.Entry
	learnt  []api.GateState
	errs    []api.Errno
	none    []api.GateState
	held    []api.GateState
}

func (g *given) ask(t *testing.T, rows int) answers {
	t.Helper()
	var a answers
	a.digest = gossip.Digest(g.gates[0])
	a.lacking = gossip.Lacks(g.gates[1], g.has)
	one, errs := gossip.Exchange(g.keys, rows, g.gates[0], g.entries)
	two, _ := gossip.Exchange(g.keys, rows, g.gates[1], nil)
	three, _ := gossip.Exchange(g.keys, rows, g.gates[2], []api.Entry{{}})
	a.learnt, a.errs = []api.GateState{one, two, three}, errs
	a.none, _ = gossip.Rounds(g.keys, rows, g.gates, nil)
	var err api.Errno
	if a.held, err = gossip.Rounds(g.keys, rows, g.gates, g.meetings); err != api.OK {
		t.Fatalf("P20.4: Rounds: %d", err)
	}
	if _, err = gossip.Rounds(g.keys, rows, g.gates, append(slices.Clone(g.meetings), [2]int{1, 5})); err != api.ErrArg {
		t.Fatalf("P20.4: Rounds: %d", err)
	}
	return a
}

func (a answers) sameAs(b answers) bool {
	return slices.Equal(a.digest, b.digest) && slices.Equal(a.lacking, b.lacking) && slices.EqualFunc(a.learnt, b.learnt, same) &&
		slices.Equal(a.errs, b.errs) && slices.EqualFunc(a.none, b.none, same) && slices.EqualFunc(a.held, b.held, same)
}

// copied is the same in memory of its own.
func (a answers) copied() answers {
	c := answers{digest: slices.Clone(a.digest), lacking: slices.Clone(a.lacking), errs: slices.Clone(a.errs)}
	own := func(list []api.GateState) []api.GateState {
		list = slices.Clone(list)
		for i := range list {
			list[i].Rows = slices.Clone(list[i].Rows)
		}
		return list
	}
	c.learnt, c.none, c.held = own(a.learnt), own(a.none), own(a.held)
	return c
}

// ruin writes over all of the answers.
func (a answers) ruin() {
	wreck(a.digest, short(1, 1, true, true))
	wreck(a.lacking, stray)
	wreck(a.errs, 99)
	for _, list := range [][]api.GateState{a.learnt, a.none, a.held} {
		wreckStates(list)
	}
}

// TestHandedInP20: everything that is handed in is left as it is, what lies beside it in its memory too, whatever is done to the answers; nothing of it is kept, and no answer hangs on the spare room.
func TestHandedInP20(t *testing.T) {
	r := chance(7)
	for i := range 8 {
		g := drawGiven(t, r)
		was := g.copied()
		rows := []int{2, 4, plenty}[i%3]
		first := g.ask(t, rows)
		kept, second := first.copied(), g.ask(t, rows)
		if !first.sameAs(kept) || !first.sameAs(second) {
			t.Fatal("the same calls do not answer the same")
		}
		if !g.sameAs(was) {
			t.Fatal("what was handed in has changed")
		}
		second.ruin()
		if !g.sameAs(was) {
			t.Fatal("an answer shares memory with what was handed in")
		}
		if !first.sameAs(kept) || !g.ask(t, rows).sameAs(kept) {
			t.Fatal("an answer shares memory with another one, or something is kept")
		}
		g.ruin()
		if !first.sameAs(kept) {
			t.Fatal("an answer changes with what was handed in")
		}
	}
}

// TestEachItsOwnP20: of the states that Rounds answers none shares memory with another, also where those that were handed in do.
func TestEachItsOwnP20(t *testing.T) {
	rows := knows(t, at(2, 1), at(3, 2), at(4, 1), at(5, 1)).Rows
	whole := slices.Clone(rows)
	gates := []api.GateState{{Rows: rows}, {Rows: rows}, {Rows: rows[:2]}, {Rows: rows[2:]}, {Rows: rows[1:3]}, {Rows: rows[:0]}}
	want := make([][]api.Entry, len(gates))
	for i, s := range gates {
		want[i] = slices.Clone(s.Rows)
	}
	for _, meetings := range [][][2]int{nil, {{1, 2}}, {{3, 6}, {4, 3}}, {{1, 2}, {2, 3}, {3, 4}, {4, 5}, {5, 6}, {6, 1}}} {
		got := wantRounds(t, "pieces of one memory", plenty, gates, meetings...)
		kept := make([][]api.Entry, len(got))
		for i, s := range got {
			kept[i] = slices.Clone(s.Rows)
		}
		for i := range got {
			wreck(got[i].Rows, stray)
			for j := i + 1; j < len(got); j++ {
				if !slices.Equal(got[j].Rows, kept[j]) {
					t.Fatalf("P20.4: the meetings %v: the gates %d and %d share memory", meetings, i+1, j+1)
				}
			}
			if !slices.Equal(rows, whole) {
				t.Fatalf("P20.4: the meetings %v: gate %d shares memory with what was handed in", meetings, i+1)
			}
		}
		for i, s := range gates {
			if !slices.Equal(s.Rows, want[i]) {
				t.Fatalf("P20.4: the state %d that was handed in has changed", i+1)
			}
		}
	}
}

// TestOwnRowsP20_3: a gate may be told pieces of its own rows.
func TestOwnRowsP20_3(t *testing.T) {
	s := knows(t, at(2, 1), frozen(at(3, 2)), at(4, 1))
	was := slices.Clone(s.Rows)
	for i := range s.Rows {
		s := api.GateState{Rows: s.Rows[:i]}
		errs := make([]api.Errno, 3-i)
		wantExchange(t, "the rows behind its own", plenty, s, was[i:], errs...)
	}
	got, _ := gossip.Exchange(keys(), plenty, api.GateState{Rows: s.Rows[:1]}, s.Rows)
	wreck(got.Rows, stray)
	if !slices.Equal(s.Rows, was) {
		t.Error("P20.3: rows that were handed in have changed")
	}
}

// TestUnmadeP20: of states that nobody made every call ends, and none panics, changes what it is handed, or shares its memory.
func TestUnmadeP20(t *testing.T) {
	r := chance(8)
	number := func() int {
		if r.IntN(3) == 0 {
			return edges[r.IntN(len(edges))]
		}
		return r.IntN(8)
	}
	unmade := func() api.GateState {
		s := api.GateState{Floor: api.Floor{Floor: number()}, Accepted: number()}
		if r.IntN(3) == 0 {
			s.Floor = floorAt(1 + r.IntN(6))
		}
		for range r.IntN(8) {
			e := drawEntry(r, 1+r.IntN(6))
			switch r.IntN(5) {
			case 0:
				e.Cert.Serial = number()
			case 1:
				e.Index = number()
			case 2:
				e.Cert.Rides = number()
			case 3:
				e.Frozen = !e.Frozen
			}
			s.Rows = append(s.Rows, e)
		}
		return s
	}
	for range 60 {
		g := drawGiven(t, r)
		g.rowsAll = nil
		for i := range g.gates {
			s := unmade()
			var whole []api.Entry
			s.Rows, whole = framed(s.Rows, stray)
			g.gates[i], g.rowsAll = s, append(g.rowsAll, whole)
		}
		for i := range g.has {
			g.has[i] = short(number(), number(), r.IntN(2) == 0, r.IntN(2) == 0)
		}
		was := g.copied()
		g.ask(t, number()).ruin()
		if !g.sameAs(was) {
			t.Fatal("a state that nobody made has changed")
		}
	}
}

// TestManyRowsP20: tables far above the bound of a gate.
func TestManyRowsP20(t *testing.T) {
	var s, half api.GateState
	for serial := 1; serial <= 3000; serial++ {
		e := api.Entry{Cert: api.Cert{Serial: serial, Rides: 5}, Index: serial % 6}
		s.Rows = append(s.Rows, e)
		if serial%2 == 0 {
			half.Rows = append(half.Rows, e)
		}
	}
	got := gossip.Lacks(s, gossip.Digest(half))
	if len(got) != 1500 || got[0].Cert.Serial != 1 || got[1499].Cert.Serial != 2999 {
		t.Errorf("P20.2: %d rows are lacking", len(got))
	}
	if got := gossip.Lacks(half, gossip.Digest(s)); len(got) != 0 {
		t.Errorf("P20.2: %d rows are lacking", len(got))
	}
}

package gossip_test

import (
	"math"
	"math/rand/v2"
	"slices"
	"testing"

	"farebox/api"
	"farebox/gate"
	"farebox/gossip"
)

// drawEntry is one that CheckEntry takes.
func drawEntry(r *rand.Rand, serial int) api.Entry {
	e := at(serial, r.IntN(6))
	if r.IntN(3) == 0 {
		e = frozen(e)
	}
	if r.IntN(4) == 0 {
		e = revoked(e)
	}
	return e
}

// TestNoEntriesP20_3: the state as it is, and no errors.
func TestNoEntriesP20_3(t *testing.T) {
	for _, none := range [][]api.Entry{nil, {}, make([]api.Entry, 0, 4)} {
		for _, rows := range append([]int{8}, edges...) {
			wantExchange(t, "nothing to nobody", rows, api.GateState{}, none)
			wantExchange(t, "nothing", rows, state(t, floorAt(2), 7, at(3, 1), frozen(at(4, 2))), none)
		}
	}
}

// TestOneAfterTheOtherP20_3: entries of one serial are joined one after the other; each is answered, one that changes nothing too; the floor and the rides stay.
func TestOneAfterTheOtherP20_3(t *testing.T) {
	s := state(t, floorAt(2), 7, at(3, 1))
	got := wantExchange(t, "some", plenty, s, []api.Entry{at(3, 2), at(3, 1), at(3, 2), frozen(at(3, 0)), revoked(at(9, 1)), at(5, 0), at(3, 4)}, api.OK, api.OK, api.OK, api.OK, api.OK, api.OK, api.OK)
	wantState(t, "P20.3: some", got, state(t, floorAt(2), 7, frozen(at(3, 4)), at(5, 0), revoked(at(9, 1))))
	again := wantExchange(t, "what it has already", 0, got, got.Rows, api.OK, api.OK, api.OK)
	wantState(t, "P20.3: what it has already", again, got)
}

// TestRefusedBetweenP20_3: one that is refused, by each error of gate.Learn, stands between two that are taken: the second one goes on with the state that the first one made.
func TestRefusedBetweenP20_3(t *testing.T) {
	low := at(3, 1)
	low.Index = 6
	bare := frozen(at(3, 2))
	bare.Freeze = api.Sig{}
	swapped := revoked(at(3, 2))
	swapped.Revoke = frozen(at(3, 2)).Freeze
	loose := at(3, 2)
	loose.Revoke[0] = 1
	for _, x := range []struct {
		what string
		e    api.Entry
		want api.Errno
	}{
		{"zeros", api.Entry{}, api.ErrArg},
		{"an index above the rides", low, api.ErrArg},
		{"a signature whose flag is down", loose, api.ErrArg},
		{"a certificate that is not signed", unsigned(at(3, 2)), api.ErrSign},
		{"a freeze that is not signed", bare, api.ErrSign},
		{"a revocation with the freeze's signature", swapped, api.ErrSign},
		{"a value that leads elsewhere", strayed(at(3, 2)), api.ErrChain},
		{"another index's value", api.Entry{Cert: at(3, 2).Cert, Index: 2, Value: at(3, 1).Value}, api.ErrChain},
		{"below the floor", at(1, 5), api.ErrFloor},
		{"another certificate of the serial", other(3, 5), api.ErrOther},
		{"no room", at(8, 1), api.ErrRows},
	} {
		s := state(t, floorAt(2), 7, at(3, 1), at(4, 1))
		got := wantExchange(t, x.what, 3, s, []api.Entry{at(5, 1), x.e, at(3, 3)}, api.OK, x.want, api.OK)
		wantState(t, "P20.3: "+x.what, got, state(t, floorAt(2), 7, at(3, 3), at(4, 1), at(5, 1)))
		alone := wantExchange(t, x.what+", alone", 2, s, []api.Entry{x.e}, x.want)
		wantState(t, "P20.3: "+x.what+", alone", alone, s)
		wantExchange(t, x.what+", twice, at the end", 3, s, []api.Entry{at(5, 1), x.e, x.e}, api.OK, x.want, x.want)
	}
}

// TestOrderP20_3: of two certificates of one serial the first one is taken, whichever that is.
func TestOrderP20_3(t *testing.T) {
	a, b := at(3, 1), other(3, 5)
	one := wantExchange(t, "one", plenty, api.GateState{}, []api.Entry{a, b, frozen(b), frozen(a)}, api.OK, api.ErrOther, api.ErrOther, api.OK)
	two := wantExchange(t, "the other", plenty, api.GateState{}, []api.Entry{b, a, frozen(a), frozen(b)}, api.OK, api.ErrOther, api.ErrOther, api.OK)
	wantState(t, "P20.3: one", one, knows(t, frozen(a)))
	wantState(t, "P20.3: the other", two, knows(t, frozen(b)))
}

// TestBoundP20_3: a bound of rows that is reached in the midst: rows that are there are still joined, new ones are refused, each by itself.
func TestBoundP20_3(t *testing.T) {
	entries := []api.Entry{at(6, 1), at(4, 1), at(2, 1), at(6, 2), at(8, 1), frozen(at(4, 0)), at(1, 1), at(2, 5)}
	ok, full := api.OK, api.ErrRows
	for rows, want := range map[int][]api.Errno{
		math.MinInt: {full, full, full, full, full, full, full, full},
		-1:          {full, full, full, full, full, full, full, full},
		0:           {full, full, full, full, full, full, full, full},
		1:           {ok, full, full, ok, full, full, full, full},
		2:           {ok, ok, full, ok, full, ok, full, full},
		3:           {ok, ok, ok, ok, full, ok, full, ok},
		4:           {ok, ok, ok, ok, ok, ok, full, ok},
		5:           {ok, ok, ok, ok, ok, ok, ok, ok},
		math.MaxInt: {ok, ok, ok, ok, ok, ok, ok, ok},
	} {
		got := wantExchange(t, "a bound", rows, api.GateState{}, entries, want...)
		if len(got.Rows) != min(max(rows, 0), 5) {
			t.Errorf("P20.3: a bound of %d: %d rows", rows, len(got.Rows))
		}
	}
	over := knows(t, at(3, 1), at(4, 1))
	wantExchange(t, "more rows than the bound", 1, over, []api.Entry{at(5, 1), at(4, 2), at(3, 0)}, full, ok, ok)
}

// TestRingP20_3: it is this ring that is asked, and of it the issuer's key alone.
func TestRingP20_3(t *testing.T) {
	entries := []api.Entry{at(3, 1), frozen(at(4, 0)), {}}
	mine, theirs := keys(), keys()
	theirs.Issuer = mine.Gates[0]
	for _, r := range []api.Ring{theirs, {}, {Gates: mine.Gates}} {
		s, errs := gossip.Exchange(r, plenty, knows(t, at(3, 0)), entries)
		if !slices.Equal(errs, []api.Errno{api.ErrSign, api.ErrSign, api.ErrArg}) {
			t.Errorf("P20.3: another ring: %v", errs)
		}
		wantState(t, "P20.3: another ring", s, knows(t, at(3, 0)))
	}
	s, errs := gossip.Exchange(api.Ring{Issuer: mine.Issuer}, plenty, api.GateState{}, entries)
	if !slices.Equal(errs, []api.Errno{api.OK, api.OK, api.ErrArg}) || len(s.Rows) != 2 {
		t.Errorf("P20.3: a ring without gates: %v, %s", errs, brief(s))
	}
}

// TestAsLearnP20_3: entries by chance, good and bad, beside gate.Learn of one after the other.
func TestAsLearnP20_3(t *testing.T) {
	r := chance(3)
	met := map[api.Errno]int{}
	for range 60 {
		s := state(t, floorAt(1+r.IntN(4)), r.IntN(3), drawEntry(r, 4), drawEntry(r, 6))
		var entries []api.Entry
		for range r.IntN(10) {
			e := drawEntry(r, 1+r.IntN(9))
			switch r.IntN(8) {
			case 0:
				e = unsigned(e)
			case 1:
				e = strayed(e)
			case 2:
				e = other(e.Cert.Serial, e.Index)
			case 3:
				e.Cert.Rides = e.Index - 1
			}
			entries = append(entries, e)
		}
		rows := r.IntN(7)
		got, errs := gossip.Exchange(keys(), rows, s, entries)
		var want []api.Errno
		for _, e := range entries {
			next, _, err := gate.Learn(keys(), s, rows, e)
			if err == api.OK {
				s = next
			}
			want = append(want, err)
			met[err]++
		}
		if !slices.Equal(errs, want) {
			t.Fatalf("P20.3: %v, want %v", errs, want)
		}
		wantState(t, "P20.3: by chance", got, s)
	}
	for _, err := range []api.Errno{api.OK, api.ErrArg, api.ErrSign, api.ErrChain, api.ErrFloor, api.ErrOther, api.ErrRows} {
		if met[err] == 0 || len(met) != 7 {
			t.Errorf("errors: %v", met)
		}
	}
}

package gate_test

import (
	"math"
	"slices"
	"testing"

	"farebox/api"
	"farebox/gate"
)

// wantDecide asks what the model says of a ticket.
func wantDecide(t *testing.T, what string, k known, bound int, x api.Ticket) api.Errno {
	t.Helper()
	want, wantErr := k.decide(bound, x)
	got, err := gate.Decide(keys(), k.state(), bound, x)
	if err != wantErr {
		t.Fatalf("P19.2: %s: Decide of index %d of %d = %d, want %d", what, x.Index, x.Cert.Serial, err, wantErr)
	}
	wantState(t, "P19.2: "+what, got, want.state())
	return err
}

// turned is a certificate with a bit of its signature turned.
func turned(c api.Cert) api.Cert {
	c.Sig[17] ^= 4
	return c
}

// otherCert is one of the same serial and chain at another price, signed as well.
func otherCert(c api.Cert) api.Cert { return certFor(c.Serial, c.Rides, c.Price+1) }

// rowsOfThree are the rows that a state may have of serial 3: none, and with the certificate of cert or otherCert each index and flag.
func rowsOfThree() []known {
	list := []known{newKnown()}
	for _, c := range []api.Cert{cert(3), otherCert(cert(3))} {
		for _, index := range []int{0, 2, 5} {
			e := at(c, index)
			list = append(list, newKnown(e), newKnown(frozen(e)), newKnown(revoked(e)), newKnown(revoked(frozen(e))))
		}
	}
	return list
}

// TestPairsP19_2: tickets of which several reasons hold at once: the first one is answered. Each pair of reasons that can hold together is met, one beside the other alone.
func TestPairsP19_2(t *testing.T) {
	c := cert(3)
	far := c
	far.Price = -1
	met := map[[2]api.Errno]int{}
	count := map[api.Errno]int{}
	for _, k := range rowsOfThree() {
		for _, floor := range []api.Floor{{}, floorAt(3), floorAt(4)} {
			k.floor = floor // a row below the floor is in no state that was made: what is answered of it is free, but it ends
			if _, there := k.rows[3]; there && floor.Floor > 3 {
				gate.Decide(keys(), k.state(), 1, ticketOf(c, 1))
				continue
			}
			for _, x := range []api.Cert{c, turned(c), otherCert(c), turned(otherCert(c)), far} {
				for _, index := range []int{0, 1, 2, 3, 5, 6} {
					for _, from := range []int{index, index - 1} {
						for bound := range 2 {
							ticket := api.Ticket{Cert: x, Index: index, Value: value(3, 5, min(max(from, 0), 5))}
							why := k.reasons(bound, ticket)
							count[wantDecide(t, "pairs", k, bound, ticket)]++
							for i := range why {
								for j := range i {
									met[[2]api.Errno{why[j], why[i]}]++
								}
							}
						}
					}
				}
			}
		}
	}
	order := []api.Errno{api.ErrArg, api.ErrFloor, api.ErrSign, api.ErrOther, api.ErrGone, api.ErrFrozen, api.ErrIndex, api.ErrChain, api.ErrRows}
	never := [][2]api.Errno{ // what needs a row stands beside nothing that needs none
		{api.ErrSign, api.ErrOther}, {api.ErrOther, api.ErrRows}, {api.ErrGone, api.ErrRows}, {api.ErrFrozen, api.ErrRows},
		{api.ErrFloor, api.ErrOther}, {api.ErrFloor, api.ErrGone}, {api.ErrFloor, api.ErrFrozen},
	}
	for i := range order {
		for j := range i {
			pair := [2]api.Errno{order[j], order[i]}
			if (met[pair] > 0) == slices.Contains(never, pair) {
				t.Errorf("P19.2: the reasons %v were met %d times", pair, met[pair])
			}
		}
		if count[order[i]] == 0 {
			t.Errorf("P19.2: %d was never answered", order[i])
		}
	}
	if count[api.OK] == 0 {
		t.Error("P19.2: no ticket was accepted")
	}
}

// TestOrderP19_2: the order of the looks, written out.
func TestOrderP19_2(t *testing.T) {
	c := cert(3)
	out := turned(c)
	out.Rides = 0
	low, off := ticketOf(c, 2), ticketOf(c, 3)
	off.Value = value(3, 5, 2)
	with := func(c api.Cert, x api.Ticket) api.Ticket {
		x.Cert = c
		return x
	}
	both, ice := newKnown(revoked(frozen(at(c, 2)))), newKnown(frozen(at(c, 2)))
	row, none := newKnown(at(c, 2)), newKnown()
	high := none.raised(floorAt(4))
	for _, x := range []struct {
		what string
		k    known
		rows int
		t    api.Ticket
		want api.Errno
	}{
		{"out of range, below the floor, unsigned", high, 0, with(out, off), api.ErrArg},
		{"index 0 below the floor", high, 0, with(c, ticketOf(c, 0)), api.ErrArg},
		{"index 6 below the floor", high, 0, api.Ticket{Cert: c, Index: 6, Value: value(3, 5, 5)}, api.ErrArg},
		{"below the floor, unsigned", high, 0, with(turned(c), off), api.ErrFloor},
		{"unsigned, off the chain, no room", none, 0, with(turned(c), off), api.ErrSign},
		{"another one, unsigned, of a revoked row", both, 0, with(turned(c), low), api.ErrSign},
		{"another one, signed, of a revoked row", both, 0, with(otherCert(c), low), api.ErrOther},
		{"revoked and frozen, no new index", both, 0, low, api.ErrGone},
		{"frozen, no new index", ice, 0, low, api.ErrFrozen},
		{"frozen, off the chain", ice, 0, off, api.ErrFrozen},
		{"no new index, off the chain", row, 0, api.Ticket{Cert: c, Index: 2, Value: value(3, 5, 1)}, api.ErrIndex},
		{"off the chain", row, 0, off, api.ErrChain},
		{"off the chain, no room", none, 0, off, api.ErrChain},
		{"no room", none, 0, low, api.ErrRows},
		{"a row needs no room", row, 0, ticketOf(c, 3), api.OK},
		{"room", none, 1, low, api.OK},
	} {
		if err := wantDecide(t, x.what, x.k, x.rows, x.t); err != x.want {
			t.Errorf("P19.2: %s: %d, want %d", x.what, err, x.want)
		}
	}
}

// TestRangeP19_2: each field of a ticket one beyond its range, ahead of every other reason.
func TestRangeP19_2(t *testing.T) {
	for name, spoil := range map[string]func(x *api.Ticket){
		"serial 0":         func(x *api.Ticket) { x.Cert.Serial = 0 },
		"serial 65536":     func(x *api.Ticket) { x.Cert.Serial = 65536 },
		"serial -1":        func(x *api.Ticket) { x.Cert.Serial = -1 },
		"the least serial": func(x *api.Ticket) { x.Cert.Serial = math.MinInt },
		"rides 0":          func(x *api.Ticket) { x.Cert.Rides = 0 },
		"rides 4097":       func(x *api.Ticket) { x.Cert.Rides = 4097 },
		"price -1":         func(x *api.Ticket) { x.Cert.Price = -1 },
		"price 1000000001": func(x *api.Ticket) { x.Cert.Price = 1000000001 },
		"index 0":          func(x *api.Ticket) { x.Index = 0 },
		"index -1":         func(x *api.Ticket) { x.Index = -1 },
		"index 6":          func(x *api.Ticket) { x.Index = 6 },
		"2^32 + 1":         func(x *api.Ticket) { x.Index = 1<<32 + 1 },
		"the greatest":     func(x *api.Ticket) { x.Index = math.MaxInt },
		"the least":        func(x *api.Ticket) { x.Index = math.MinInt },
	} {
		x := ticketOf(cert(3), 4)
		spoil(&x)
		for _, k := range []known{newKnown(), newKnown(at(cert(3), 2)), newKnown(revoked(at(cert(3), 2))), newKnown().raised(floorAt(9))} {
			if got := wantDecide(t, name, k, 4, x); got != api.ErrArg {
				t.Errorf("P19.2: %s: %d", name, got)
			}
		}
	}
}

// TestCertP19_2: a certificate of which one bit is turned is another one, beside its own row and without one.
func TestCertP19_2(t *testing.T) {
	c := cert(3)
	for i := range 64 {
		bad := c
		bad.Sig[i] ^= 1 << (i % 8)
		for _, k := range []known{newKnown(), newKnown(at(c, 2))} {
			if got := wantDecide(t, "a bit of the signature", k, 4, api.Ticket{Cert: bad, Index: 3, Value: value(3, 5, 3)}); got != api.ErrSign {
				t.Errorf("P19.2: bit %d: %d", i, got)
			}
		}
	}
	// The row's own was checked when it came: under another ring it is not asked for again, but a new one is.
	other := keys()
	other.Issuer = keys().Gates[0]
	got, err := gate.Decide(other, newKnown(at(c, 2)).state(), 4, ticketOf(c, 3))
	wantState(t, "P19.2: the row's own certificate", got, api.GateState{Accepted: 1, Rows: []api.Entry{at(c, 3)}})
	if _, err2 := gate.Decide(other, api.GateState{}, 4, ticketOf(c, 3)); err != api.OK || err2 != api.ErrSign {
		t.Errorf("P19.2: under another ring: %d with a row, %d without", err, err2)
	}
	if _, err := gate.Decide(api.Ring{}, api.GateState{}, 4, ticketOf(c, 3)); err != api.ErrSign {
		t.Errorf("P19.2: under no ring: %d", err)
	}
}

// TestIndexP19_2: below the row's index, at it, and above, to the last ride; the value must lead to the row's in just as many steps as the indexes are apart.
func TestIndexP19_2(t *testing.T) {
	c := cert(3)
	for low := range 6 {
		k := newKnown(at(c, low))
		for index := 1; index <= 5; index++ {
			for from := range 6 {
				x := api.Ticket{Cert: c, Index: index, Value: value(3, 5, from)}
				want := api.OK
				switch {
				case index <= low:
					want = api.ErrIndex
				case from != index: // all of these lead to the anchor
					want = api.ErrChain
				}
				if got := wantDecide(t, "an index", k, 4, x); got != want {
					t.Errorf("P19.2: index %d with the value of %d on %d: %d, want %d", index, from, low, got, want)
				}
			}
			for _, stray := range []api.Hash{{}, {1}, value(4, 5, index), value(3, 6, index)} {
				want := api.ErrChain
				if index <= low {
					want = api.ErrIndex
				}
				if got := wantDecide(t, "a stray value", k, 4, api.Ticket{Cert: c, Index: index, Value: stray}); got != want {
					t.Errorf("P19.2: a stray value as index %d on %d: %d", index, low, got)
				}
			}
		}
	}
}

// TestLinkP19_2: beside a row it is the row's value that a ticket must lead to, and not the anchor.
func TestLinkP19_2(t *testing.T) {
	c := cert(3)
	for _, x := range []struct {
		what  string
		index int
		v     api.Hash
		want  api.Errno
	}{
		{"to the anchor, but not to the row's", 3, value(3, 5, 3), api.ErrChain},
		{"to the anchor, two above", 4, value(3, 5, 4), api.ErrChain},
		{"to the row's", 3, api.Hash{7}, api.OK},
		{"to the row's, in one step more", 4, api.Hash{7}, api.ErrChain},
		{"to neither", 3, api.Hash{8}, api.ErrChain},
	} {
		k := newKnown(api.Entry{Cert: c, Index: 2, Value: steps(api.Hash{7}, 1)})
		if got := wantDecide(t, x.what, k, 4, api.Ticket{Cert: c, Index: x.index, Value: x.v}); got != x.want {
			t.Errorf("P19.2: %s: %d, want %d", x.what, got, x.want)
		}
	}
}

// TestLongChainP19_2: the longest carnet, ridden at its ends.
func TestLongChainP19_2(t *testing.T) {
	c := certFor(7, 4096, 1000000000)
	last, first := ticketOf(c, 4096), ticketOf(c, 1)
	one := newKnown(at(c, 1))
	one.accepted = 41
	for _, x := range []struct {
		k    known
		t    api.Ticket
		want api.Errno
	}{
		{newKnown(), last, api.OK}, {newKnown(), first, api.OK}, {one, last, api.OK}, {one, first, api.ErrIndex},
		{newKnown(at(c, 4096)), last, api.ErrIndex}, {newKnown(at(c, 4095)), last, api.OK},
	} {
		if got := wantDecide(t, "4096 rides", x.k, 4, x.t); got != x.want {
			t.Errorf("P19.2: index %d of 4096: %d, want %d", x.t.Index, got, x.want)
		}
	}
	single := certFor(8, 1, 0)
	if got := wantDecide(t, "one ride", newKnown(), 4, ticketOf(single, 1)); got != api.OK {
		t.Errorf("P19.2: the one ride of a carnet: %d", got)
	}
	top := certFor(65535, 2, 3)
	if got := wantDecide(t, "the greatest serial", newKnown().raised(floorAt(65535)), 4, ticketOf(top, 2)); got != api.OK {
		t.Errorf("P19.2: the greatest serial: %d", got)
	}
	if got := wantDecide(t, "the greatest floor", newKnown().raised(floorAt(65536)), 4, ticketOf(top, 2)); got != api.ErrFloor {
		t.Errorf("P19.2: the greatest floor: %d", got)
	}
}

// TestBoundP19_2: as many rows as the bound, one fewer and one more; a bound of 0 and one below 0.
func TestBoundP19_2(t *testing.T) {
	rows := []api.Entry{at(cert(2), 1), frozen(at(cert(4), 0)), at(cert(6), 5), revoked(at(cert(8), 3))}
	for n := range len(rows) + 1 {
		k := newKnown(rows[:n]...)
		k.accepted = n
		for _, bound := range []int{math.MinInt, -1, 0, 1, 2, 3, 4, 5, 6, 256, math.MaxInt} {
			want := api.OK
			if n >= bound {
				want = api.ErrRows
			}
			for _, serial := range []int{1, 3, 5, 7, 9} { // at the front, in the midst and at the end
				if got := wantDecide(t, "a new row", k, bound, ticketOf(cert(serial), 4)); got != want {
					t.Errorf("P19.2: serial %d in a table of %d with a bound of %d: %d, want %d", serial, n, bound, got, want)
				}
			}
			if n > 0 {
				if got := wantDecide(t, "an old row", k, bound, ticketOf(cert(2), 2)); got != api.OK {
					t.Errorf("P19.2: an old row with a bound of %d: %d", bound, got)
				}
			}
		}
	}
}

// TestFloorP19_2: a serial one below the floor, at it and above it.
func TestFloorP19_2(t *testing.T) {
	for serial := 1; serial <= 9; serial++ {
		for _, n := range []int{1, 4, 5, 6, 9, 10, 65536} {
			want := api.OK
			if serial < n {
				want = api.ErrFloor
			}
			if got := wantDecide(t, "a floor", newKnown().raised(floorAt(n)), 4, ticketOf(cert(serial), 1)); got != want {
				t.Errorf("P19.2: serial %d with the floor %d: %d, want %d", serial, n, got, want)
			}
		}
	}
}

// TestRidesP19_2: all rides of three carnets, in turn: the rest of the state stays as it is, but for Accepted.
func TestRidesP19_2(t *testing.T) {
	k := newKnown(frozen(at(cert(1), 2)), revoked(at(cert(9), 0)))
	k = k.raised(floorAt(1))
	s := k.state()
	for index := 1; index <= 5; index++ {
		for i, serial := range []int{5, 3, 7} {
			var err api.Errno
			s, err = gate.Decide(keys(), s, 5, ticketOf(cert(serial), index))
			if err != api.OK {
				t.Fatalf("P19.2: ride %d of %d: %d", index, serial, err)
			}
			k, _ = k.decide(5, ticketOf(cert(serial), index))
			wantState(t, "P19.2: a ride", s, k.state())
			if s.Accepted != 3*(index-1)+i+1 || s.Floor != floorAt(1) {
				t.Errorf("P19.2: %d accepted behind ride %d of %d", s.Accepted, index, serial)
			}
		}
	}
}

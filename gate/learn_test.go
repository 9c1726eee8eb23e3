package gate_test

import (
	"math"
	"slices"
	"testing"

	"farebox/api"
	"farebox/gate"
	"farebox/ring"
)

// wantChange asks for a state, a flag and a reason that the model says.
func wantChange(t *testing.T, what string, got api.GateState, is bool, err api.Errno, want known, wantIs bool, wantErr api.Errno) {
	t.Helper()
	if is != wantIs || err != wantErr {
		t.Fatalf("%s = %v, %d, want %v, %d", what, is, err, wantIs, wantErr)
	}
	wantState(t, what, got, want.state())
}

func wantLearn(t *testing.T, what string, k known, bound int, e api.Entry) (known, bool, api.Errno) {
	t.Helper()
	want, wantIs, wantErr := k.learn(bound, e)
	got, is, err := gate.Learn(keys(), k.state(), bound, e)
	wantChange(t, "P19.3: Learn, "+what, got, is, err, want, wantIs, wantErr)
	return want, is, err
}

func wantFreeze(t *testing.T, what string, k known, bound int, f api.Freeze) (known, bool, api.Errno) {
	t.Helper()
	want, wantIs, wantErr := k.freeze(bound, f)
	got, is, err := gate.Freeze(keys(), k.state(), bound, f)
	wantChange(t, "P19.4: Freeze, "+what, got, is, err, want, wantIs, wantErr)
	return want, is, err
}

func wantRevoke(t *testing.T, what string, k known, bound int, v api.Revocation) (known, bool, api.Errno) {
	t.Helper()
	want, wantIs, wantErr := k.revoke(bound, v)
	got, is, err := gate.Revoke(keys(), k.state(), bound, v)
	wantChange(t, "P19.4: Revoke, "+what, got, is, err, want, wantIs, wantErr)
	return want, is, err
}

func wantRaise(t *testing.T, what string, k known, f api.Floor) (known, bool, api.Errno) {
	t.Helper()
	want, wantIs, wantErr := k.raise(f)
	got, is, err := gate.Raise(keys(), k.state(), f)
	wantChange(t, "P19.5: Raise, "+what, got, is, err, want, wantIs, wantErr)
	return want, is, err
}

// fourStates are states for what is refused: nothing is changed in any of them.
func fourStates() []known {
	return []known{newKnown(), newKnown(at(cert(3), 2)), newKnown(frozen(at(cert(3), 1)), revoked(at(cert(6), 2))), newKnown(at(cert(9), 5)).raised(floorAt(8))}
}

// TestRefusedP19_3: entries that CheckEntry refuses, by each of its errors, ahead of all that a table asks.
func TestRefusedP19_3(t *testing.T) {
	c := cert(3)
	full := revoked(frozen(at(c, 2)))
	change := func(how func(e *api.Entry)) api.Entry {
		e := full
		how(&e)
		return e
	}
	for _, x := range []struct {
		what string
		e    api.Entry
		want api.Errno
	}{
		{"zeros", api.Entry{}, api.ErrArg},
		{"serial 0", change(func(e *api.Entry) { e.Cert.Serial = 0 }), api.ErrArg},
		{"serial 65536", change(func(e *api.Entry) { e.Cert.Serial = 65536 }), api.ErrArg},
		{"rides 4097", change(func(e *api.Entry) { e.Cert.Rides = 4097 }), api.ErrArg},
		{"price -1", change(func(e *api.Entry) { e.Cert.Price = -1 }), api.ErrArg},
		{"index -1", change(func(e *api.Entry) { e.Index = -1 }), api.ErrArg},
		{"index 6", change(func(e *api.Entry) { e.Index = 6 }), api.ErrArg},
		{"a freeze without its flag", change(func(e *api.Entry) { e.Frozen = false }), api.ErrArg},
		{"a revocation without its flag", change(func(e *api.Entry) { e.Revoked = false }), api.ErrArg},
		{"another price", change(func(e *api.Entry) { e.Cert.Price++ }), api.ErrSign},
		{"a bit of the certificate's signature", change(func(e *api.Entry) { e.Cert.Sig[63] ^= 1 }), api.ErrSign},
		{"a bit of the freeze", change(func(e *api.Entry) { e.Freeze[0] ^= 1 }), api.ErrSign},
		{"a bit of the revocation", change(func(e *api.Entry) { e.Revoke[31] ^= 128 }), api.ErrSign},
		{"the signatures changed for one another", change(func(e *api.Entry) { e.Freeze, e.Revoke = e.Revoke, e.Freeze }), api.ErrSign},
		{"frozen, and signed by nobody", change(func(e *api.Entry) { e.Freeze = api.Sig{} }), api.ErrSign},
		{"another certificate's flags", change(func(e *api.Entry) { e.Cert = otherCert(c) }), api.ErrSign},
		{"off the chain", change(func(e *api.Entry) { e.Value[0] ^= 1 }), api.ErrChain},
		{"the value of another index", change(func(e *api.Entry) { e.Index = 3 }), api.ErrChain},
		{"index 0 with another value", change(func(e *api.Entry) { e.Index = 0 }), api.ErrChain},
		{"the seed as index 4", change(func(e *api.Entry) { e.Index, e.Value = 4, value(3, 5, 5) }), api.ErrChain},
	} {
		for _, k := range fourStates() {
			for _, bound := range []int{-1, 0, 9} {
				if _, _, err := wantLearn(t, x.what, k, bound, x.e); err != x.want {
					t.Errorf("P19.3: %s: %d, want %d", x.what, err, x.want)
				}
			}
		}
	}
	if _, _, err := gate.Learn(api.Ring{}, api.GateState{}, 4, at(c, 0)); err != api.ErrSign {
		t.Errorf("P19.3: under no ring: %d", err)
	}
}

// TestLearnP19_3: entries that are taken, or that the table refuses, with each row that may be there.
func TestLearnP19_3(t *testing.T) {
	c := cert(3)
	met := map[api.Errno]int{}
	changed := map[bool]int{}
	for _, k := range rowsOfThree() {
		for _, floor := range []int{0, 3, 4} {
			k := k
			if floor > 0 {
				k = k.raised(floorAt(floor))
			}
			for index := range 6 {
				e := at(c, index)
				for _, x := range []api.Entry{e, frozen(e), revoked(e), revoked(frozen(e))} {
					for _, bound := range []int{0, 1} {
						_, is, err := wantLearn(t, "an entry", k, bound, x)
						met[err]++
						changed[is]++
					}
				}
			}
		}
	}
	for _, err := range []api.Errno{api.OK, api.ErrFloor, api.ErrOther, api.ErrRows} {
		if met[err] == 0 || len(met) != 4 || changed[true] == 0 || changed[false] == 0 {
			t.Errorf("P19.3: %v, %v", met, changed)
		}
	}
}

// TestLearnStepsP19_3: an entry that changes nothing, one that freezes, one that revokes; none of them is a ride.
func TestLearnStepsP19_3(t *testing.T) {
	c := cert(3)
	k := newKnown(at(c, 2))
	k.accepted = 7
	for _, x := range []struct {
		what string
		e    api.Entry
		is   bool
		want api.Entry
	}{
		{"the same", at(c, 2), false, at(c, 2)},
		{"an earlier one", at(c, 1), false, at(c, 2)},
		{"the anchor", at(c, 0), false, at(c, 2)},
		{"the last", at(c, 5), true, at(c, 5)},
		{"an earlier one, frozen", frozen(at(c, 0)), true, frozen(at(c, 5))},
		{"frozen once more", frozen(at(c, 5)), false, frozen(at(c, 5))},
		{"an earlier one, revoked", revoked(at(c, 1)), true, revoked(frozen(at(c, 5)))},
		{"all of it", revoked(frozen(at(c, 5))), false, revoked(frozen(at(c, 5)))},
		{"nothing of it", at(c, 0), false, revoked(frozen(at(c, 5)))},
	} {
		after, is, err := wantLearn(t, x.what, k, 1, x.e)
		if is != x.is || err != api.OK || after.rows[3] != x.want || after.accepted != 7 {
			t.Errorf("P19.3: %s: %v, %d", x.what, is, err)
		}
		k = after
	}
	if got := wantDecide(t, "behind a revocation that was learnt", k, 1, ticketOf(c, 5)); got != api.ErrGone {
		t.Errorf("P19.3: %d", got)
	}
	if got := wantDecide(t, "behind a freeze that was learnt", newKnown(frozen(at(c, 1))), 1, ticketOf(c, 5)); got != api.ErrFrozen {
		t.Errorf("P19.3: %d", got)
	}
}

// TestRefusedP19_4: freezes and revocations out of range, and those in which a bit is turned.
func TestRefusedP19_4(t *testing.T) {
	c := cert(3)
	none := api.Sig{}
	for _, k := range fourStates() {
		for name, spoil := range map[string]func(c *api.Cert){
			"serial 0":         func(c *api.Cert) { c.Serial = 0 },
			"serial 65536":     func(c *api.Cert) { c.Serial = 65536 },
			"rides 0":          func(c *api.Cert) { c.Rides = 0 },
			"rides 4097":       func(c *api.Cert) { c.Rides = 4097 },
			"price -1":         func(c *api.Cert) { c.Price = -1 },
			"price 1000000001": func(c *api.Cert) { c.Price = 1000000001 },
			"zeros":            func(c *api.Cert) { *c = api.Cert{} },
		} {
			bad := c
			spoil(&bad)
			_, _, err := wantFreeze(t, name, k, 0, api.Freeze{Cert: bad, Sig: freezeOf(c).Sig})
			_, _, err2 := wantRevoke(t, name, k, 0, api.Revocation{Cert: bad})
			if err != api.ErrArg || err2 != api.ErrArg {
				t.Errorf("P19.4: %s: %d, %d", name, err, err2)
			}
		}
		for name, x := range map[string]struct {
			c           api.Cert
			ice, retire api.Sig
		}{
			"the certificate's signature":             {turned(c), freezeOf(c).Sig, revocationOf(c).Sig},
			"the certificate's, signed all the same":  {turned(c), freezeOf(turned(c)).Sig, revocationOf(turned(c)).Sig},
			"another certificate, signed itself":      {otherCert(c), freezeOf(c).Sig, revocationOf(c).Sig},
			"no signature":                            {c, none, none},
			"the certificate's own signature":         {c, c.Sig, c.Sig},
			"the other kind's":                        {c, revocationOf(c).Sig, freezeOf(c).Sig},
			"a certificate of nobody, rightly frozen": {api.Cert{Serial: 3, Rides: 1}, freezeOf(api.Cert{Serial: 3, Rides: 1}).Sig, revocationOf(api.Cert{Serial: 3, Rides: 1}).Sig},
		} {
			_, _, err := wantFreeze(t, name, k, 0, api.Freeze{Cert: x.c, Sig: x.ice})
			_, _, err2 := wantRevoke(t, name, k, 0, api.Revocation{Cert: x.c, Sig: x.retire})
			if err != api.ErrSign || err2 != api.ErrSign {
				t.Errorf("P19.4: %s: %d, %d", name, err, err2)
			}
		}
	}
	for i := range 64 {
		f, v := freezeOf(c), revocationOf(c)
		f.Sig[i] ^= 1 << (i % 8)
		v.Sig[i] ^= 1 << (i % 8)
		_, _, err := wantFreeze(t, "a bit", newKnown(), 4, f)
		_, _, err2 := wantRevoke(t, "a bit", newKnown(), 4, v)
		if err != api.ErrSign || err2 != api.ErrSign {
			t.Errorf("P19.4: a bit of byte %d: %d, %d", i, err, err2)
		}
	}
}

// TestFreezeP19_4: freezes and revocations that are signed, with each row that may be there, each floor and bound.
func TestFreezeP19_4(t *testing.T) {
	c := cert(3)
	met := map[api.Errno]int{}
	for _, k := range rowsOfThree() {
		for _, floor := range []int{0, 3, 4} {
			k := k
			if floor > 0 {
				k = k.raised(floorAt(floor))
			}
			for _, bound := range []int{-1, 0, 1} {
				_, _, err := wantFreeze(t, "a freeze", k, bound, freezeOf(c))
				_, _, err2 := wantRevoke(t, "a revocation", k, bound, revocationOf(c))
				if err != err2 {
					t.Errorf("P19.4: %d, %d", err, err2)
				}
				met[err]++
			}
		}
	}
	for _, err := range []api.Errno{api.OK, api.ErrFloor, api.ErrOther, api.ErrRows} {
		if met[err] == 0 || len(met) != 4 {
			t.Errorf("P19.4: %v", met)
		}
	}
}

// TestFreezeStepsP19_4: a freeze of what nobody has ridden makes a row of index 0; a row that is frozen or revoked is no hindrance, and nothing is a ride.
func TestFreezeStepsP19_4(t *testing.T) {
	c := cert(3)
	k := newKnown(at(cert(2), 1), at(cert(4), 1))
	k.accepted = 5
	k, is, err := wantFreeze(t, "a new row", k, 3, freezeOf(c))
	if row := (api.Entry{Cert: c, Value: c.Anchor, Frozen: true, Freeze: freezeOf(c).Sig}); !is || err != api.OK || k.rows[3] != row || k.accepted != 5 {
		t.Errorf("P19.4: %v, %d, %+v", is, err, k.rows[3])
	}
	if _, is, err = wantFreeze(t, "once more", k, 3, freezeOf(c)); is || err != api.OK {
		t.Errorf("P19.4: %v, %d", is, err)
	}
	k, is, err = wantRevoke(t, "a frozen row", k, 3, revocationOf(c))
	if !is || err != api.OK || k.rows[3] != revoked(frozen(at(c, 0))) {
		t.Errorf("P19.4: %v, %d", is, err)
	}
	for range 2 {
		if _, is, err = wantRevoke(t, "once more", k, 3, revocationOf(c)); is || err != api.OK {
			t.Errorf("P19.4: %v, %d", is, err)
		}
		if _, is, err = wantFreeze(t, "a revoked row", k, 3, freezeOf(c)); is || err != api.OK {
			t.Errorf("P19.4: %v, %d", is, err)
		}
	}
	ridden, is, err := wantFreeze(t, "a ridden row", k, 3, freezeOf(cert(4)))
	if !is || err != api.OK || ridden.rows[4] != frozen(at(cert(4), 1)) {
		t.Errorf("P19.4: %v, %d, %+v", is, err, ridden.rows[4])
	}
	for _, serial := range []int{3, 4} {
		got := wantDecide(t, "behind it", ridden, 3, ticketOf(cert(serial), 5))
		if want := map[int]api.Errno{3: api.ErrGone, 4: api.ErrFrozen}[serial]; got != want {
			t.Errorf("P19.4: a ticket of %d: %d, want %d", serial, got, want)
		}
	}
}

// TestRaiseP19_5: floors out of range, unsigned, below, at and above the floor; the order of the looks.
func TestRaiseP19_5(t *testing.T) {
	rows := []api.Entry{at(cert(1), 1), frozen(at(cert(4), 2)), revoked(at(cert(5), 3)), at(cert(6), 4)}
	for _, base := range []int{0, 1, 4, 5, 7, 65535, 65536} {
		k := newKnown(rows...)
		k.accepted = 3
		if base > 0 {
			k = k.raised(floorAt(base))
		}
		for _, n := range []int{math.MinInt, -1, 0, 65537, 1<<32 + 5, math.MaxInt} {
			f := api.Floor{Floor: n}
			if _, is, err := wantRaise(t, "out of range", k, f); is || err != api.ErrArg {
				t.Errorf("P19.5: %d: %v, %d", n, is, err)
			}
			f = ring.SealFloor(seed(0), f)
			if _, is, err := wantRaise(t, "out of range, sealed", k, f); is || err != api.ErrArg {
				t.Errorf("P19.5: %d: %v, %d", n, is, err)
			}
		}
		for _, n := range []int{1, 3, 4, 5, 6, 7, 65534, 65535, 65536} {
			f := floorAt(n)
			f.Sig[n%64] ^= 8
			if _, is, err := wantRaise(t, "unsigned", k, f); is || err != api.ErrSign {
				t.Errorf("P19.5: %d unsigned on %d: %v, %d", n, base, is, err)
			}
			f.Sig = floorAt(n%65536 + 1).Sig
			if _, is, err := wantRaise(t, "another floor's signature", k, f); is || err != api.ErrSign {
				t.Errorf("P19.5: %d on %d: %v, %d", n, base, is, err)
			}
			after, is, err := wantRaise(t, "signed", k, floorAt(n))
			switch {
			case n < base && (is || err != api.ErrFloor), n == base && (is || err != api.OK), n > base && (!is || err != api.OK || after.floor != floorAt(n)):
				t.Errorf("P19.5: %d on %d: %v, %d", n, base, is, err)
			}
			if after.accepted != 3 {
				t.Errorf("P19.5: %d accepted", after.accepted)
			}
		}
	}
}

// TestDroppedP19_5: the rows below the floor are dropped, the one at it stays.
func TestDroppedP19_5(t *testing.T) {
	k := newKnown(at(cert(1), 1), frozen(at(cert(4), 2)), revoked(at(cert(5), 3)), at(cert(6), 4))
	for n, want := range map[int][]int{1: {1, 4, 5, 6}, 2: {4, 5, 6}, 4: {4, 5, 6}, 5: {5, 6}, 6: {6}, 7: nil} {
		s, is, err := gate.Raise(keys(), k.state(), floorAt(n))
		var serials []int
		for _, e := range s.Rows {
			serials = append(serials, e.Cert.Serial)
		}
		if !is || err != api.OK || !slices.Equal(serials, want) {
			t.Errorf("P19.5: a floor of %d leaves %v, want %v", n, serials, want)
		}
	}
}

// TestAnotherFloorP19_5: another signed floor of the same number changes nothing, whichever signature is the greater.
func TestAnotherFloorP19_5(t *testing.T) {
	mine := api.Floor{Floor: 4, Sig: api.Sig{1}} // a state's floor is not asked for its signature again
	k := newKnown(at(cert(6), 4)).raised(mine)
	for range 2 {
		if after, is, err := wantRaise(t, "the same number", k, floorAt(4)); is || err != api.OK || after.floor != k.floor {
			t.Errorf("P19.5: %v, %d", is, err)
		}
		k.floor.Sig[0] = 255
	}
}

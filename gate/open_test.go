package gate_test

import (
	"bytes"
	"math"
	"testing"

	"farebox/api"
	"farebox/flash"
	"farebox/gate"
	"farebox/journal"
	"farebox/ring"
	"farebox/terms"
)

// wantRefused asks that Open refuses, and writes nothing.
func wantRefused(t *testing.T, what string, c api.Config, n int, f *flash.Flash, want api.Errno) {
	t.Helper()
	writes := f.Writes()
	if g, err := gate.Open(c, keys(), n, f); g != nil || err != want {
		t.Errorf("P19.6: Open, %s = %v, %d, want nil, %d", what, g, err, want)
	}
	if f.Writes() != writes {
		t.Errorf("P19.6: Open, %s, has made %d writes", what, f.Writes()-writes)
	}
}

// wantFiles asks what a flash's banks hold.
func wantFiles(t *testing.T, what string, f *flash.Flash, first, second []byte) {
	t.Helper()
	if a, b := f.Files(); !bytes.Equal(a, first) || !bytes.Equal(b, second) {
		t.Errorf("%s: the banks hold %x and %x, want %x and %x", what, a, b, first, second)
	}
}

// downed is a flash that is down, with these banks.
func downed(size int, first, second []byte) *flash.Flash {
	f := flash.Load(size, first, second)
	f.Arm(1, 0)
	f.Append(0, nil)
	return f
}

// TestConfigP19_6: a configuration that may not be is refused ahead of all else.
func TestConfigP19_6(t *testing.T) {
	for name, spoil := range map[string]func(c *api.Config){
		"no gates":      func(c *api.Config) { c.Gates = 0 },
		"17 gates":      func(c *api.Config) { c.Gates = 17 },
		"no wallets":    func(c *api.Config) { c.Wallets = 0 },
		"9 wallets":     func(c *api.Config) { c.Wallets = 9 },
		"no rows":       func(c *api.Config) { c.Rows = 0 },
		"257 rows":      func(c *api.Config) { c.Rows = 257 },
		"a small flash": func(c *api.Config) { c.Flash = 511 },
		"a great flash": func(c *api.Config) { c.Flash = 1048577 },
		"no serials":    func(c *api.Config) { c.Serials = 0 },
		"65536 serials": func(c *api.Config) { c.Serials = 65536 },
	} {
		c := config
		spoil(&c)
		for _, n := range []int{math.MinInt, 0, 1, 2, 17} {
			wantRefused(t, name, c, n, flash.New(4096), api.ErrConfig)
			wantRefused(t, name, c, n, flash.New(3), api.ErrConfig)
			wantRefused(t, name, c, n, downed(4096, nil, nil), api.ErrConfig)
			wantRefused(t, name, c, n, flash.Load(4096, bank(1, "?"), nil), api.ErrConfig)
		}
	}
}

// TestNumberP19_6: the numbers of gates, at both ends and beyond; they are asked ahead of the flash.
func TestNumberP19_6(t *testing.T) {
	for _, gates := range []int{1, 3, 16} {
		c := config
		c.Gates = gates
		keys, _ := ring.Make(c)
		for _, n := range []int{math.MinInt, -1, 0, gates + 1, 17, 1<<32 + 1, math.MaxInt} {
			wantRefused(t, "no such gate", c, n, flash.New(4096), api.ErrArg)
			wantRefused(t, "no such gate", c, n, downed(4096, nil, nil), api.ErrArg)
			wantRefused(t, "no such gate", c, n, flash.Load(4096, bank(1, "?"), nil), api.ErrArg)
		}
		for _, n := range []int{1, (gates + 1) / 2, gates} {
			g, err := gate.Open(c, keys, n, flash.New(4096))
			if err != api.OK {
				t.Fatalf("P19.6: Open of gate %d of %d = %d", n, gates, err)
			}
			a := g.Take([]byte(tellFreeze(freezeOf(cert(3)))))
			if len(a.Out) != 1 || a.Out[0].From != n {
				t.Fatalf("P19.6: gate %d of %d answers %+v", n, gates, a)
			}
			if ack, err := terms.DecodeAck(a.Out[0].Body); err != api.OK || ack.Gate != n || !ring.CheckAck(keys, ack) {
				t.Errorf("P19.7: gate %d of %d acknowledges %+v", n, gates, ack)
			}
			if a := g.Send(n%gates + 1); gates == 1 && a.Err != api.ErrArg || gates > 1 && a.Err != api.OK {
				t.Errorf("P19.8: gate %d of %d sends %+v", n, gates, a)
			}
		}
	}
}

// TestBlankP19_6: whatever no journal is gives way to one of the state of zeros.
func TestBlankP19_6(t *testing.T) {
	half := bank(5, blank)[:20]
	erased := append([]byte{0xFF, 0xFF}, bank(5, blank)[2:]...)
	for _, first := range [][]byte{nil, {1}, half, erased} {
		for _, second := range [][]byte{nil, {0}, half, erased} {
			f := flash.Load(100, first, second)
			wantState(t, "a blank flash", open(t, f).State(), api.GateState{})
			wantFiles(t, "P19.6: a blank flash", f, bank(1, blank), nil)
			writes := 1
			for _, b := range [][]byte{first, second} {
				if len(b) > 0 {
					writes++
				}
			}
			if f.Writes() != writes {
				t.Errorf("P19.6: Open of %x, %x has made %d writes", first, second, f.Writes())
			}
		}
	}
}

// lived is a journal with a floor and rows, and the state that it comes to.
func lived() ([]byte, api.GateState) {
	k := newKnown(at(cert(3), 2), frozen(at(cert(5), 1))).raised(floorAt(2))
	k.accepted = 6
	b := bank(7, snapshot(k), rideOf(at(cert(3), 4)), entryOf(revoked(at(cert(4), 0))), floorOf(floorAt(4)), rideOf(at(cert(9), 1)))
	return b, api.GateState{Floor: floorAt(4), Accepted: 8, Rows: []api.Entry{revoked(at(cert(4), 0)), frozen(at(cert(5), 1)), at(cert(9), 1)}}
}

// TestAgainP19_6: over a journal that is whole Open writes what journal.Open writes, and nothing else.
func TestAgainP19_6(t *testing.T) {
	whole, want := lived()
	older := bank(6, snapshotOf(9, ""))
	for _, tail := range []string{"", "\x00", "\xa5R\x00", string(bank(8, ""))} {
		for _, other := range [][]byte{nil, {1}, older} {
			for i := range 2 {
				banks := [2][]byte{append(bytes.Clone(whole), tail...), other}
				f, g := flash.Load(2048, banks[i], banks[1-i]), flash.Load(2048, banks[i], banks[1-i])
				wantState(t, "a journal", open(t, f).State(), want)
				if _, _, err := journal.Open(g); err != api.OK {
					t.Fatalf("journal.Open = %d", err)
				}
				first, second := g.Files()
				wantFiles(t, "P19.6: a journal", f, first, second)
				if f.Writes() != g.Writes() {
					t.Errorf("P19.6: Open has made %d writes, journal.Open %d", f.Writes(), g.Writes())
				}
				writes := f.Writes()
				wantState(t, "once more", open(t, f).State(), want)
				if f.Writes() != writes {
					t.Error("P19.6: a second Open has written")
				}
			}
		}
	}
}

// TestFormattedP19_6: a journal that is there is not formatted.
func TestFormattedP19_6(t *testing.T) {
	f := flash.New(100)
	journal.Format(f, []byte(blank))
	wantState(t, "formatted", open(t, f).State(), api.GateState{})
	if f.Writes() != 1 {
		t.Errorf("P19.6: Open has made %d writes", f.Writes()-1)
	}
	wantRefused(t, "formatted by another", config, number, flash.Load(100, bank(1, ""), nil), api.ErrDamage)
}

// TestDownP19_6: a flash that is down, blank or not, readable or not.
func TestDownP19_6(t *testing.T) {
	for _, b := range [][]byte{nil, {1}, bank(1, blank), bank(1, "?"), bank(lastEpoch, blank, "?")} {
		f := downed(100, b, nil)
		wantRefused(t, "down", config, number, f, api.ErrDown)
		wantFiles(t, "P19.6: down", f, b, nil)
	}
}

// TestLastEpochP19_6: at the last epoch a tail cannot be left behind; without one all is well.
func TestLastEpochP19_6(t *testing.T) {
	b := bank(lastEpoch, blank, floorOf(floorAt(4)))
	f := flash.Load(200, append(bytes.Clone(b), 1), []byte{2})
	wantRefused(t, "a tail at the last epoch", config, number, f, api.ErrRoom)
	wantFiles(t, "P19.6: a tail at the last epoch", f, append(bytes.Clone(b), 1), []byte{2})
	wantRefused(t, "a tail, and damage", config, number, flash.Load(100, append(bank(lastEpoch, "?"), 1), nil), api.ErrRoom)
	wantState(t, "the last epoch", open(t, flash.Load(200, b, []byte{2})).State(), api.GateState{Floor: floorAt(4)})
}

// TestSmallP19_6: banks that have no room for the first snapshot, whose header has 32 bytes, and banks that have.
func TestSmallP19_6(t *testing.T) {
	for size := range 32 {
		f := flash.Load(size, []byte{1}, []byte{2})
		was, were := f.Files()
		wantRefused(t, "a small bank", config, number, f, api.ErrRoom)
		wantFiles(t, "P19.6: a small bank", f, was, were)
	}
	f := flash.Load(32, []byte{1}, []byte{2})
	wantState(t, "just enough", open(t, f).State(), api.GateState{})
	wantFiles(t, "P19.6: just enough", f, bank(1, blank), nil)
}

// TestCutP19_6: Open on a blank flash, and over a tail, cut off at each of its writes; the next one does it.
func TestCutP19_6(t *testing.T) {
	whole, want := lived()
	for _, x := range []struct {
		first, second []byte
		writes        int
		want          api.GateState
	}{
		{nil, nil, 1, api.GateState{}},
		{[]byte{1}, bytes.Repeat([]byte{2}, 9), 3, api.GateState{}},
		{append(bytes.Clone(whole), 9, 9), []byte{3}, 3, want},
		{bank(6, blank), append(bytes.Clone(whole), 9), 3, want},
	} {
		for after := 1; after <= x.writes; after++ {
			for keep := 0; keep < 2000; keep += 1 + keep/12 {
				f := flash.Load(2000, x.first, x.second)
				f.Arm(after, keep)
				f.Arm(1+keep%3, keep*7%50)
				cut := 0
				g, err := gate.Open(config, keys(), number, f)
				for ; err == api.ErrDown && g == nil; g, err = gate.Open(config, keys(), number, f) {
					cut++
					f.Restart()
				}
				if err != api.OK || cut < 1 {
					t.Fatalf("P19.6: Open cut off at write %d behind %d bytes, and opened again = %d, cut off %d times", after, keep, err, cut)
				}
				wantState(t, "P19.10: behind Opens that were cut off", g.State(), x.want)
			}
		}
	}
}

// TestUnaskedP19_6: no signature and no chain is asked for again of what stands on the flash, and the ring is asked for what comes.
func TestUnaskedP19_6(t *testing.T) {
	odd := api.Entry{Cert: api.Cert{Serial: 3, Rides: 5}, Index: 4, Frozen: true, Revoked: true}
	stray := api.Floor{Floor: 2}
	f := flash.Load(4096, bank(1, snapshotOf(3, tellFloor(stray), tellEntry(odd)), entryOf(api.Entry{Cert: api.Cert{Serial: 9, Rides: 1}}), floorOf(api.Floor{Floor: 3})), nil)
	wantState(t, "nobody has signed it", open(t, f).State(), api.GateState{Floor: api.Floor{Floor: 3}, Accepted: 3, Rows: []api.Entry{odd, {Cert: api.Cert{Serial: 9, Rides: 1}}}})
	g, err := gate.Open(config, api.Ring{}, number, flash.New(4096))
	if err != api.OK {
		t.Fatalf("P19.6: Open with an empty ring = %d", err)
	}
	for what, body := range messages() {
		if a := g.Take([]byte(body)); !sameAnswer(a, refusal(api.ErrSign)) {
			t.Errorf("P19.7: %s under an empty ring: %+v", what, a)
		}
	}
}

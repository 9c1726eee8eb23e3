package issuer_test

import (
	"bytes"
	"testing"

	"farebox/api"
	"farebox/flash"
	"farebox/issuer"
	"farebox/journal"
)

// wantRefused asks that Open refuses, and writes nothing.
func wantRefused(t *testing.T, what string, c api.Config, f *flash.Flash, want api.Errno) {
	t.Helper()
	writes := f.Writes()
	if i, err := issuer.Open(c, keys(), f); i != nil || err != want {
		t.Errorf("P23.9: Open, %s = %v, %d, want nil, %d", what, i, err, want)
	}
	if f.Writes() != writes {
		t.Errorf("P23.9: Open, %s, has made %d writes", what, f.Writes()-writes)
	}
}

// wantOpen is the issuer that Open answers, with the state.
func wantOpen(t *testing.T, what string, f *flash.Flash, want api.IssuerState) *issuer.Issuer {
	t.Helper()
	i, err := issuer.Open(config, keys(), f)
	if i == nil || err != api.OK {
		t.Fatalf("P23.9: Open, %s = %v, %d", what, i, err)
	}
	wantState(t, "P23.9: "+what, i.State(), want)
	return i
}

// wantFiles asks what a flash's banks hold.
func wantFiles(t *testing.T, what string, f *flash.Flash, first, second []byte) {
	t.Helper()
	if a, b := f.Files(); !bytes.Equal(a, first) || !bytes.Equal(b, second) {
		t.Errorf("%s: the banks hold %x and %x, want %x and %x", what, a, b, first, second)
	}
}

// downed is a flash that is down, with these banks.
func downed(size int, first, second []byte) *flash.Flash {
	f := flash.Load(size, first, second)
	f.Arm(1, 0)
	f.Append(0, nil)
	return f
}

// TestConfigP23_9: a configuration that may not be is refused ahead of all else.
func TestConfigP23_9(t *testing.T) {
	for name, spoil := range map[string]func(c *api.Config){
		"no gates":      func(c *api.Config) { c.Gates = 0 },
		"17 gates":      func(c *api.Config) { c.Gates = 17 },
		"no wallets":    func(c *api.Config) { c.Wallets = 0 },
		"9 wallets":     func(c *api.Config) { c.Wallets = 9 },
		"no rows":       func(c *api.Config) { c.Rows = 0 },
		"257 rows":      func(c *api.Config) { c.Rows = 257 },
		"a small flash": func(c *api.Config) { c.Flash = 511 },
		"a great flash": func(c *api.Config) { c.Flash = 1048577 },
		"no serials":    func(c *api.Config) { c.Serials = 0 },
		"65536 serials": func(c *api.Config) { c.Serials = 65536 },
		"all below 0":   func(c *api.Config) { c.Gates, c.Wallets, c.Rows, c.Flash, c.Serials = -1, -1, -1, -1, -1 },
	} {
		c := config
		spoil(&c)
		wantRefused(t, name, c, flash.New(4096), api.ErrConfig)
		wantRefused(t, name, c, flash.New(3), api.ErrConfig)
		wantRefused(t, name, c, downed(4096, nil, nil), api.ErrConfig)
		wantRefused(t, name, c, flash.Load(4096, bank(1, "?"), nil), api.ErrConfig)
	}
}

// TestBlankP23_9: whatever no journal is gives way to one of the state at the beginning.
func TestBlankP23_9(t *testing.T) {
	half := bank(5, blank)[:20]
	erased := append([]byte{0xFF, 0xFF}, bank(5, blank)[2:]...)
	for _, first := range [][]byte{nil, {1}, half, erased} {
		for _, second := range [][]byte{nil, {0}, half, erased} {
			f := flash.Load(512, first, second)
			wantOpen(t, "a blank flash", f, api.IssuerState{})
			wantFiles(t, "P23.9: a blank flash", f, bank(1, blank), nil)
			writes := 1
			for _, b := range [][]byte{first, second} {
				if len(b) > 0 {
					writes++
				}
			}
			if f.Writes() != writes {
				t.Errorf("P23.9: Open of %x, %x has made %d writes", first, second, f.Writes())
			}
		}
	}
}

// lived is a journal in which each kind of record stands, and the state that it comes to.
func lived() ([]byte, api.IssuerState) {
	s := scenery()
	var records []string
	for _, o := range []op{taking(5, order(9, 7)), taking(1, order(10, 0)), ack(1, 2, 2, 2), freezing(1), paying(3), revoking(5), raising(2), ack(3, 1, 1, 0), ack(2, 2, 2, 1)} {
		x := o.model(config, s)
		if x.record == "" {
			panic(o.name)
		}
		records = append(records, x.record)
		s = x.s
	}
	return bank(7, snapshot(scenery()), records...), s
}

// TestAgainP23_9: over a journal that is whole Open writes what journal.Open writes, and nothing else.
func TestAgainP23_9(t *testing.T) {
	whole, want := lived()
	older := bank(6, blank)
	for _, tail := range []string{"", "\x00", "\xa5R\x00", string(bank(8, ""))} {
		for _, other := range [][]byte{nil, {1}, older} {
			for i := range 2 {
				banks := [2][]byte{append(bytes.Clone(whole), tail...), other}
				f, g := flash.Load(4096, banks[i], banks[1-i]), flash.Load(4096, banks[i], banks[1-i])
				wantOpen(t, "a journal", f, want)
				if _, _, err := journal.Open(g); err != api.OK {
					t.Fatalf("journal.Open = %d", err)
				}
				first, second := g.Files()
				wantFiles(t, "P23.9: a journal", f, first, second)
				if f.Writes() != g.Writes() {
					t.Errorf("P23.9: Open has made %d writes, journal.Open %d", f.Writes(), g.Writes())
				}
				writes := f.Writes()
				wantOpen(t, "once more", f, want)
				if f.Writes() != writes {
					t.Error("P23.9: a second Open has written")
				}
			}
		}
	}
}

// TestFormattedP23_9: a journal that is there is not formatted.
func TestFormattedP23_9(t *testing.T) {
	f := flash.New(512)
	journal.Format(f, []byte(blank))
	wantOpen(t, "formatted", f, api.IssuerState{})
	if f.Writes() != 1 {
		t.Errorf("P23.9: Open has made %d writes", f.Writes()-1)
	}
	wantRefused(t, "formatted by another", config, flash.Load(512, bank(1, ""), nil), api.ErrDamage)
}

// TestDownP23_9: a flash that is down, blank or not, readable or not.
func TestDownP23_9(t *testing.T) {
	for _, b := range [][]byte{nil, {1}, bank(1, blank), bank(1, "?"), bank(lastEpoch, blank, "?")} {
		f := downed(512, b, nil)
		wantRefused(t, "down", config, f, api.ErrDown)
		wantFiles(t, "P23.9: down", f, b, nil)
	}
}

// TestLastEpochP23_9: at the last epoch a tail cannot be left behind, which is told as it is; without one all is well.
func TestLastEpochP23_9(t *testing.T) {
	b := bank(lastEpoch, blank, "\x06\x04")
	f := flash.Load(512, append(bytes.Clone(b), 1), []byte{2})
	wantRefused(t, "a tail at the last epoch", config, f, api.ErrRange)
	wantFiles(t, "P23.9: a tail at the last epoch", f, append(bytes.Clone(b), 1), []byte{2})
	wantRefused(t, "a tail, and damage", config, flash.Load(512, append(bank(lastEpoch, "?"), 1), nil), api.ErrRange)
	wantOpen(t, "the last epoch", flash.Load(512, b, []byte{2}), modelRaise(config, api.IssuerState{}, 4).s)
}

// TestSmallP23_9: banks that have no room for the first snapshot, whose header has 113 bytes, and banks that have.
func TestSmallP23_9(t *testing.T) {
	for _, size := range []int{0, 1, 22, 91, 111, 112} {
		f := flash.Load(size, []byte{1}, []byte{2})
		was, were := f.Files()
		wantRefused(t, "a small bank", config, f, api.ErrRoom)
		wantFiles(t, "P23.9: a small bank", f, was, were)
	}
	f := flash.Load(113, []byte{1}, []byte{2})
	wantOpen(t, "just enough", f, api.IssuerState{})
	wantFiles(t, "P23.9: just enough", f, bank(1, blank), nil)
}

// TestUnaskedP23_9: of a snapshot no signature, no chain and no sum is asked for again.
func TestUnaskedP23_9(t *testing.T) {
	s := fourStatuses()
	s.Floor = api.Floor{Floor: 3, Sig: api.Sig{1}}
	s.Book.Net = [3]int64{-5, 7, -1 << 63}
	s.Leaves = []api.Hash{{1}, {1}, {2}}
	for k := range s.Carnets {
		s.Carnets[k].Cert.Sig = api.Sig{byte(k)}
		s.Carnets[k].Cert.Anchor = api.Hash{7}
		s.Carnets[k].Owner = 24 - k
	}
	f := flash.Load(4096, bank(1, snapshot(s)), nil)
	wantOpen(t, "nobody has written it", f, s)
}

// TestCutP23_9: Open on a blank flash, cut off at each of its writes behind each of their bytes, and over a tail, behind many; the next one does it.
func TestCutP23_9(t *testing.T) {
	t.Parallel()
	x := scenery()
	whole, want := bank(7, snapshot(x), "\x03\x01", "\x05\x02"), modelRevoke(config, modelFreeze(config, x, 1).s, 2).s
	for _, x := range []struct {
		first, second []byte
		writes        int
		want          api.IssuerState
	}{
		{nil, nil, 1, api.IssuerState{}},
		{[]byte{1}, bytes.Repeat([]byte{2}, 9), 3, api.IssuerState{}},
		{append(bytes.Clone(whole), 9, 9), []byte{3}, 3, want},
		{bank(6, blank), append(bytes.Clone(whole), 9), 3, want},
	} {
		for after := 1; after <= x.writes; after++ {
			for keep := 0; keep < 1200; keep += 1 + keep/120 { // the header of a Format has 113 bytes
				f := flash.Load(2000, x.first, x.second)
				f.Arm(after, keep)
				f.Arm(1+keep%3, keep*7%50)
				cut := 0
				i, err := issuer.Open(config, keys(), f)
				for ; err == api.ErrDown && i == nil; i, err = issuer.Open(config, keys(), f) {
					cut++
					f.Restart()
				}
				if err != api.OK || cut < 1 {
					t.Fatalf("P23.9: Open cut off at write %d behind %d bytes, and opened again = %d, cut off %d times", after, keep, err, cut)
				}
				wantState(t, "P23.14: behind Opens that were cut off", i.State(), x.want)
				f.Disarm()
			}
		}
	}
}

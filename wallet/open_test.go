package wallet_test

import (
	"bytes"
	"math"
	"testing"

	"farebox/api"
	"farebox/flash"
	"farebox/journal"
	"farebox/wallet"
)

// wantRefused asks that Open refuses, and writes nothing.
func wantRefused(t *testing.T, what string, c api.Config, n int, f *flash.Flash, want api.Errno) {
	t.Helper()
	writes := f.Writes()
	if w, err := wallet.Open(c, keys(), n, f); w != nil || err != want {
		t.Errorf("P18.1: Open, %s = %v, %d, want nil, %d", what, w, err, want)
	}
	if f.Writes() != writes {
		t.Errorf("P18.1: Open, %s, has made %d writes", what, f.Writes()-writes)
	}
}

// wantFiles asks what a flash's banks hold.
func wantFiles(t *testing.T, what string, f *flash.Flash, first, second []byte) {
	t.Helper()
	if a, b := f.Files(); !bytes.Equal(a, first) || !bytes.Equal(b, second) {
		t.Errorf("%s: the banks hold %x and %x, want %x and %x", what, a, b, first, second)
	}
}

// downed is a flash that is down, with these banks.
func downed(size int, first, second []byte) *flash.Flash {
	f := flash.Load(size, first, second)
	f.Arm(1, 0)
	f.Append(0, nil)
	return f
}

// TestOpenConfigP18_1: a configuration that may not be is refused ahead of all else.
func TestOpenConfigP18_1(t *testing.T) {
	for name, spoil := range map[string]func(c *api.Config){
		"no gates":      func(c *api.Config) { c.Gates = 0 },
		"17 gates":      func(c *api.Config) { c.Gates = 17 },
		"no wallets":    func(c *api.Config) { c.Wallets = 0 },
		"9 wallets":     func(c *api.Config) { c.Wallets = 9 },
		"no rows":       func(c *api.Config) { c.Rows = 0 },
		"257 rows":      func(c *api.Config) { c.Rows = 257 },
		"a small flash": func(c *api.Config) { c.Flash = 511 },
		"a great flash": func(c *api.Config) { c.Flash = 1048577 },
		"no serials":    func(c *api.Config) { c.Serials = 0 },
		"65536 serials": func(c *api.Config) { c.Serials = 65536 },
	} {
		c := config
		spoil(&c)
		for _, n := range []int{math.MinInt, 0, 1, 2, 9} {
			wantRefused(t, name, c, n, flash.New(4096), api.ErrConfig)
			wantRefused(t, name, c, n, flash.New(3), api.ErrConfig)
			wantRefused(t, name, c, n, downed(4096, nil, nil), api.ErrConfig)
			wantRefused(t, name, c, n, flash.Load(4096, bank(1, "?"), nil), api.ErrConfig)
		}
	}
}

// TestOpenNumberP18_1: the numbers of wallets, at both ends and beyond; they are asked ahead of the flash.
func TestOpenNumberP18_1(t *testing.T) {
	for _, wallets := range []int{1, 3, 8} {
		c := config
		c.Wallets = wallets
		for _, n := range []int{math.MinInt, -1, 0, wallets + 1, 9, 1<<32 + 1, math.MaxInt} {
			wantRefused(t, "no such wallet", c, n, flash.New(4096), api.ErrArg)
			wantRefused(t, "no such wallet", c, n, downed(4096, nil, nil), api.ErrArg)
			wantRefused(t, "no such wallet", c, n, flash.Load(4096, bank(1, "?"), nil), api.ErrArg)
		}
		for n := 1; n <= wallets; n++ {
			w, err := wallet.Open(c, keys(), n, flash.New(4096))
			if err != api.OK {
				t.Fatalf("P18.1: Open of wallet %d of %d = %d", n, wallets, err)
			}
			if a := w.Buy(1, 1); len(a.Out) != 1 || a.Out[0].From != c.Gates+n {
				t.Errorf("P18.1: wallet %d of %d answers %+v", n, wallets, a)
			}
		}
	}
}

// TestOpenBlankP18_1: whatever no journal is gives way to one without purses.
func TestOpenBlankP18_1(t *testing.T) {
	half := bank(5, "\x00")[:20]
	erased := append([]byte{0xFF, 0xFF}, bank(5, "\x00")[2:]...)
	for _, first := range [][]byte{nil, {1}, half, erased} {
		for _, second := range [][]byte{nil, {0}, half, erased} {
			f := flash.Load(100, first, second)
			w := open(t, f)
			wantState(t, "a blank flash", w.State(), nil)
			wantFiles(t, "P18.1: a blank flash", f, bank(1, "\x00"), nil)
			writes := 1
			for _, b := range [][]byte{first, second} {
				if len(b) > 0 {
					writes++
				}
			}
			if f.Writes() != writes {
				t.Errorf("P18.1: Open of %x, %x has made %d writes", first, second, f.Writes())
			}
		}
	}
}

// TestOpenAgainP18_1: over a journal that is whole Open writes what journal.Open writes, and nothing else.
func TestOpenAgainP18_1(t *testing.T) {
	whole := bank(7, "\x00", orderOf(3, 250), orderOf(1, 0))
	older := bank(6, snapshotOf(purse(9, 9, "", 0, "")))
	want := []api.Purse{{Chain: 1, Rides: 3, Price: 250}, {Chain: 2, Rides: 1}}
	for _, tail := range []string{"", "\x00", "\xa5R\x00", string(bank(8, ""))} {
		for _, other := range [][]byte{nil, {1}, older} {
			for i := range 2 {
				banks := [2][]byte{append(bytes.Clone(whole), tail...), other}
				f, g := flash.Load(512, banks[i], banks[1-i]), flash.Load(512, banks[i], banks[1-i])
				w := open(t, f)
				wantState(t, "a journal", w.State(), want)
				if _, _, err := journal.Open(g); err != api.OK {
					t.Fatalf("journal.Open = %d", err)
				}
				first, second := g.Files()
				wantFiles(t, "P18.1: a journal", f, first, second)
				if f.Writes() != g.Writes() {
					t.Errorf("P18.1: Open has made %d writes, journal.Open %d", f.Writes(), g.Writes())
				}
				writes := f.Writes()
				wantState(t, "once more", open(t, f).State(), want)
				if f.Writes() != writes {
					t.Error("P18.1: a second Open has written")
				}
			}
		}
	}
}

// TestOpenFormattedP18_1: a journal that is there is not formatted.
func TestOpenFormattedP18_1(t *testing.T) {
	f := flash.New(100)
	journal.Format(f, []byte{0})
	w := open(t, f)
	wantState(t, "formatted", w.State(), nil)
	if f.Writes() != 1 {
		t.Errorf("P18.1: Open has made %d writes", f.Writes()-1)
	}
	wantRefused(t, "formatted by another", config, number, flash.Load(100, bank(1, ""), nil), api.ErrDamage)
}

// TestOpenDownP18_1: a flash that is down, blank or not, readable or not.
func TestOpenDownP18_1(t *testing.T) {
	for _, b := range [][]byte{nil, {1}, bank(1, "\x00"), bank(1, "?"), bank(lastEpoch, "\x00", "?")} {
		f := downed(100, b, nil)
		wantRefused(t, "down", config, number, f, api.ErrDown)
		wantFiles(t, "P18.1: down", f, b, nil)
	}
}

// TestOpenLastEpochP18_1: at the last epoch a tail cannot be left behind; without one all is well.
func TestOpenLastEpochP18_1(t *testing.T) {
	b := bank(lastEpoch, "\x00", orderOf(3, 250))
	f := flash.Load(100, append(bytes.Clone(b), 1), []byte{2})
	wantRefused(t, "a tail at the last epoch", config, number, f, api.ErrRange)
	wantFiles(t, "P18.1: a tail at the last epoch", f, append(bytes.Clone(b), 1), []byte{2})
	wantRefused(t, "a tail, and damage", config, number, flash.Load(100, append(bank(lastEpoch, "?"), 1), nil), api.ErrRange)
	wantState(t, "the last epoch", open(t, flash.Load(100, b, []byte{2})).State(), []api.Purse{{Chain: 1, Rides: 3, Price: 250}})
}

// TestOpenSmallP18_1: banks that have no room for the first snapshot, whose header has 23 bytes, and banks that have.
func TestOpenSmallP18_1(t *testing.T) {
	for size := range 23 {
		f := flash.Load(size, []byte{1}, []byte{2})
		was, were := f.Files()
		wantRefused(t, "a small bank", config, number, f, api.ErrRoom)
		wantFiles(t, "P18.1: a small bank", f, was, were)
	}
	f := flash.Load(23, []byte{1}, []byte{2})
	wantState(t, "just enough", open(t, f).State(), nil)
	wantFiles(t, "P18.1: just enough", f, bank(1, "\x00"), nil)
}

// TestOpenCutP18_1: Open on a blank flash, and over a tail, cut off at each of its writes; the next one does it.
func TestOpenCutP18_1(t *testing.T) {
	whole := bank(7, "\x00", orderOf(3, 250), orderOf(1, 0))
	for _, x := range []struct {
		first, second []byte
		writes        int
		want          []api.Purse
	}{
		{nil, nil, 1, nil},
		{[]byte{1}, bytes.Repeat([]byte{2}, 9), 3, nil},
		{append(bytes.Clone(whole), 9, 9), []byte{3}, 3, []api.Purse{{Chain: 1, Rides: 3, Price: 250}, {Chain: 2, Rides: 1}}},
		{bank(6, "\x00"), append(bytes.Clone(whole), 9), 3, []api.Purse{{Chain: 1, Rides: 3, Price: 250}, {Chain: 2, Rides: 1}}},
	} {
		for after := 1; after <= x.writes; after++ {
			for keep := range 110 {
				f := flash.Load(120, x.first, x.second)
				f.Arm(after, keep)
				f.Arm(1+keep%3, keep*7%50)
				cut := 0
				w, err := wallet.Open(config, keys(), number, f)
				for ; err == api.ErrDown && w == nil; w, err = wallet.Open(config, keys(), number, f) {
					cut++
					f.Restart()
				}
				if err != api.OK || cut < 1 {
					t.Fatalf("P18.1: Open cut off at write %d behind %d bytes, and opened again = %d, cut off %d times", after, keep, err, cut)
				}
				wantState(t, "P18.7: behind Opens that were cut off", w.State(), x.want)
			}
		}
	}
}

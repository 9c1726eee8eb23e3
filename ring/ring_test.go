package ring_test

import (
	"math"
	"slices"
	"testing"

	"farebox/api"
	"farebox/mac"
	"farebox/ring"
	"farebox/sign"
)

// setting is a number of a configuration.
type setting struct {
	name        string
	least, most int
	place       func(*api.Config) *int
}

func settings() []setting {
	return []setting{
		{"Gates", 1, 16, func(c *api.Config) *int { return &c.Gates }},
		{"Wallets", 1, 8, func(c *api.Config) *int { return &c.Wallets }},
		{"Rows", 1, 256, func(c *api.Config) *int { return &c.Rows }},
		{"Flash", 512, 1048576, func(c *api.Config) *int { return &c.Flash }},
		{"Serials", 1, 65535, func(c *api.Config) *int { return &c.Serials }},
	}
}

// around are the limits of a number, those beside them, and numbers far away, some of which would fit if they were cut.
func (s setting) around() []int {
	return []int{
		s.least, s.least + 1, s.most - 1, s.most, s.least - 1, s.most + 1, 0, -1, -s.least, -s.most,
		s.least + 1<<32, s.most - 1<<32, math.MaxInt32, math.MinInt32, math.MaxInt, math.MinInt, math.MinInt + s.least,
	}
}

// mayBe tells whether a configuration may be, by the chapter's words.
func mayBe(c api.Config) bool {
	for _, s := range settings() {
		if *s.place(&c) < s.least || *s.place(&c) > s.most {
			return false
		}
	}
	return true
}

// wantRefused asks that nothing comes of a configuration that may not be.
func wantRefused(t *testing.T, c api.Config) {
	t.Helper()
	if err := ring.Check(c); err != api.ErrConfig {
		t.Errorf("Check(%v) = %d, want ErrConfig", c, err)
	}
	if r, err := ring.Make(c); err != api.ErrConfig || r.Issuer != (api.Key{}) || len(r.Gates) != 0 {
		t.Errorf("Make(%v) = %v, %d, want nothing, ErrConfig", c, r, err)
	}
	for _, node := range []int{-1, 0, 1, c.Gates, c.Gates + c.Wallets, c.Gates + c.Wallets + 1} {
		if h, ok := ring.Seed(c, node); ok || h != (api.Hash{}) {
			t.Errorf("Seed(%v, %d) = %x, %v, want nothing, false", c, node, h, ok)
		}
	}
}

// wantTaken asks that a configuration may be, and that its first node is there.
func wantTaken(t *testing.T, c api.Config) {
	t.Helper()
	if err := ring.Check(c); err != api.OK {
		t.Errorf("Check(%v) = %d, want OK", c, err)
	}
	if h, ok := ring.Seed(c, 0); !ok || h != seedOf(c.Secret, 0) {
		t.Errorf("Seed(%v, 0) = %x, %v", c, h, ok)
	}
}

func wantAsMayBe(t *testing.T, c api.Config) {
	t.Helper()
	if mayBe(c) {
		wantTaken(t, c)
	} else {
		wantRefused(t, c)
	}
}

// TestEachNumberP111 asks each number alone at its limits and beyond, beside others that are at a limit or between.
func TestEachNumberP111(t *testing.T) {
	least := api.Config{Gates: 1, Wallets: 1, Rows: 1, Flash: 512, Serials: 1}
	for _, base := range []api.Config{small(), full(), least} {
		wantTaken(t, base)
		for _, s := range settings() {
			for _, n := range s.around() {
				c := base
				*s.place(&c) = n
				wantAsMayBe(t, c)
			}
		}
	}
}

// TestNumbersTogetherP111 asks configurations of which any numbers are at a limit or beyond.
func TestNumbersTogetherP111(t *testing.T) {
	r := chance(1)
	taken := 0
	for range 3000 {
		c := small()
		for _, s := range settings() {
			few := s.around()[:6]
			*s.place(&c) = few[r.IntN(4+r.IntN(3))]
		}
		if mayBe(c) {
			taken++
		}
		wantAsMayBe(t, c)
	}
	if taken < 200 || taken > 2800 {
		t.Errorf("%d of 3000 may be: the test asks too little", taken)
	}
	wantRefused(t, api.Config{})
}

// TestAnySecretP111 asks secrets of all kinds: none of them is refused, and none helps.
func TestAnySecretP111(t *testing.T) {
	var ones api.Hash
	for i := range ones {
		ones[i] = 0xff
	}
	for _, secret := range []api.Hash{{}, ones, {1}, {31: 1}, someHash(chance(2))} {
		c := small()
		c.Secret = secret
		wantTaken(t, c)
		c.Rows = 0
		wantRefused(t, c)
	}
}

// TestNodesP112 asks all nodes of some fleets, and the numbers beside them.
func TestNodesP112(t *testing.T) {
	r := chance(3)
	for _, gates := range []int{1, 2, 15, 16} {
		for _, wallets := range []int{1, 2, 7, 8} {
			c := small()
			c.Gates, c.Wallets = gates, wallets
			if r.IntN(3) == 0 {
				c.Secret = api.Hash{}
			} else {
				c.Secret = someHash(r)
			}
			for node := range gates + wallets + 1 {
				if h, ok := ring.Seed(c, node); !ok || h != seedOf(c.Secret, node) {
					t.Errorf("Seed(%v, %d) = %x, %v, want %x", c, node, h, ok, seedOf(c.Secret, node))
				}
			}
			top := gates + wallets
			for _, node := range []int{-1, -2, -top, top + 1, top + 2, 25, 1 << 31, 1 << 32, 1<<32 + 1, math.MaxInt, math.MinInt, math.MinInt + 1} {
				if h, ok := ring.Seed(c, node); ok || h != (api.Hash{}) {
					t.Errorf("Seed(%v, %d) = %x, %v, want nothing, false", c, node, h, ok)
				}
			}
		}
	}
}

// TestSeedsAreTheirOwnP112 asks that no two nodes or secrets share a seed, and that a seed hangs on nothing else.
func TestSeedsAreTheirOwnP112(t *testing.T) {
	seen := map[api.Hash]bool{}
	for _, secret := range []api.Hash{{}, {1}, {31: 1}, {31: 0x80}} {
		c := full()
		c.Secret = secret
		for node := range 25 {
			h, _ := ring.Seed(c, node)
			if seen[h] {
				t.Errorf("node %d of secret %x has the seed of another", node, secret)
			}
			seen[h] = true
			if want, _ := mac.Derive(secret, "node", node); h != want {
				t.Errorf("Seed of node %d, secret %x: %x, want %x", node, secret, h, want)
			}
		}
		for _, other := range []api.Config{small(), {Gates: 1, Wallets: 1, Rows: 1, Flash: 512, Serials: 1}} {
			other.Secret = secret
			one, _ := ring.Seed(c, 1)
			if same, ok := ring.Seed(other, 1); !ok || same != one {
				t.Errorf("the seed of node 1 is another in %v", other)
			}
		}
	}
}

// TestMakeP113 asks the rings of all numbers of gates.
func TestMakeP113(t *testing.T) {
	r := chance(4)
	for gates := 1; gates <= 16; gates++ {
		c := small()
		c.Gates = gates
		if gates%3 == 0 {
			c.Secret = api.Hash{}
		} else {
			c.Secret = someHash(r)
		}
		want := ringOf(c.Secret, gates)
		if got, err := ring.Make(c); err != api.OK || got.Issuer != want.Issuer || !slices.Equal(got.Gates, want.Gates) {
			t.Errorf("Make(%v) = %x, %d, want %x", c, got, err, want)
		}
	}
}

// TestRingsShareNothingP113 asks that a ring that was answered changes with no other one.
func TestRingsShareNothingP113(t *testing.T) {
	c := small()
	want := ringOf(c.Secret, 3)
	first, _ := ring.Make(c)
	second, _ := ring.Make(c)
	spare := first.Gates[:cap(first.Gates)]
	for i := range spare {
		spare[i] = api.Key{1}
	}
	third, _ := ring.Make(c)
	for _, r := range []api.Ring{second, third} {
		if r.Issuer != want.Issuer || !slices.Equal(r.Gates, want.Gates) {
			t.Error("a ring changes with one that was answered before")
		}
	}
	c.Gates = 16
	ring.Make(c)
	if !slices.Equal(second.Gates, want.Gates) || len(third.Gates) != 3 {
		t.Error("a ring changes with one that is made later")
	}
}

func example() api.Config {
	return api.Config{Gates: 2, Wallets: 1, Rows: 4, Flash: 4096, Serials: 9}
}

func TestExamplesOfConfigurations(t *testing.T) {
	c := example()
	wantTaken(t, c)
	for _, change := range []func(*api.Config){
		func(c *api.Config) { c.Gates = 0 },
		func(c *api.Config) { c.Gates = 17 },
		func(c *api.Config) { c.Wallets = 9 },
		func(c *api.Config) { c.Rows = 257 },
		func(c *api.Config) { c.Flash = 511 },
		func(c *api.Config) { c.Flash = 1048577 },
		func(c *api.Config) { c.Serials = 65536 },
	} {
		x := c
		change(&x)
		wantRefused(t, x)
	}
	for _, node := range []int{0, 3} {
		want, _ := mac.Derive(c.Secret, "node", node)
		if h, ok := ring.Seed(c, node); !ok || h != want {
			t.Errorf("Seed(c, %d) = %x, %v, want %x", node, h, ok, want)
		}
	}
	for _, node := range []int{4, -1} {
		if h, ok := ring.Seed(c, node); ok || h != (api.Hash{}) {
			t.Errorf("Seed(c, %d) = %x, %v, want nothing, false", node, h, ok)
		}
	}
	var keys []api.Key
	for node := range 3 {
		seed, _ := ring.Seed(c, node)
		keys = append(keys, sign.Public(seed))
	}
	if r, err := ring.Make(c); err != api.OK || r.Issuer != keys[0] || !slices.Equal(r.Gates, keys[1:]) {
		t.Errorf("Make(c) = %x, %d, want %x", r, err, keys)
	}
}

func TestExamplesOfTerms(t *testing.T) {
	c := example()
	r, _ := ring.Make(c)
	var seeds []api.Hash
	for node := range 4 {
		seed, _ := ring.Seed(c, node)
		seeds = append(seeds, seed)
	}
	x := api.Cert{Serial: 7, Rides: 3, Price: 250, Anchor: api.Hash{1: 1}}
	cert := ring.SealCert(seeds[0], x)
	dearer := cert
	dearer.Price = 251
	if !ring.CheckCert(r, cert) || ring.CheckCert(r, dearer) || ring.CheckCert(r, ring.SealCert(seeds[1], x)) {
		t.Error("certificates: the one that the issuer has sealed is signed, no other one")
	}
	x.Serial = 0
	if ring.CheckCert(r, ring.SealCert(seeds[0], x)) {
		t.Error("a certificate out of range is found signed")
	}
	for gate, want := range map[int]bool{1: false, 2: true, 3: false} {
		if ring.CheckAck(r, ring.SealAck(seeds[2], api.Ack{Serial: 7, Gate: gate})) != want {
			t.Errorf("an acknowledgement of gate %d, sealed by gate 2: %v", gate, !want)
		}
	}
	for i, row := range []struct {
		x    api.Entry
		want api.Errno
	}{
		{api.Entry{Cert: cert, Value: cert.Anchor}, api.OK},
		{api.Entry{Cert: cert, Index: 4, Value: cert.Anchor}, api.ErrArg},
		{api.Entry{Cert: cert, Value: cert.Anchor, Frozen: true}, api.ErrSign},
		{api.Entry{Cert: cert, Value: api.Hash{1: 2}}, api.ErrChain},
	} {
		if got := ring.CheckEntry(r, row.x); got != row.want {
			t.Errorf("entry %d: %d, want %d", i, got, row.want)
		}
	}
}

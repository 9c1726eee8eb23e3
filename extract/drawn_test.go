package extract_test

import (
	"bytes"
	"fmt"
	"math/rand/v2"
	"slices"
	"strings"
	"sync"
	"testing"

	"farebox/api"
	"farebox/chain"
	"farebox/extract"
	"farebox/fleet"
	"farebox/mac"
	"farebox/ring"
	"farebox/terms"
)

// enemy draws a fleet's operations. He sees all that is told, has chains of his own, and may have found out nodes' seeds.
type enemy struct {
	*rand.Rand
	*witness
	seeds  map[int]api.Hash // by node; of the others he only guesses
	told   [][]byte
	frozen []api.Cert
}

func enters(t *testing.T, c api.Config, chance *rand.Rand, nodes ...int) *enemy {
	t.Helper()
	f, err := fleet.New(c)
	if err != api.OK {
		t.Fatal("fleet.New:", err)
	}
	x := &enemy{Rand: chance, witness: watching(c, f), seeds: map[int]api.Hash{}}
	for _, node := range nodes {
		x.seeds[node], _ = ring.Seed(c, node)
	}
	return x
}

// seedOf is a node's, if he has found it out.
func (x *enemy) seedOf(node int) api.Hash {
	if s, has := x.seeds[node]; has {
		return s
	}
	return api.Hash{0xE7, byte(node)}
}

// chainOf is one that he may show: his own, or one of a wallet whose seed he has.
func (x *enemy) chainOf(cert api.Cert) line {
	for k := range 4 {
		if v := (line{api.Hash{0xE6, byte(k)}, 1 + 2*k}); v.value(0) == cert.Anchor {
			return v
		}
	}
	for node := x.c.Gates + 1; node <= x.c.Gates+x.c.Wallets; node++ {
		for k := 1; k <= 5; k++ {
			secret, _ := mac.Derive(x.seedOf(node), "chain", k)
			if v, there := chain.Value(secret, cert.Rides, 0); there && v == cert.Anchor {
				return line{secret, cert.Rides}
			}
		}
	}
	return line{api.Hash{0xE5}, cert.Rides}
}

// next is the next operation: most messages are delivered, most carnets ridden, frozen and paid.
func (x *enemy) next() api.Op {
	x.told = x.told[:0]
	x.frozen = x.frozen[:0]
	for _, e := range x.f.Trace() {
		if e.Kind == api.EventOut && len(e.Body) > 0 {
			x.told = append(x.told, e.Body)
		}
		if freeze, err := terms.DecodeFreeze(e.Body); err == api.OK && e.Node == 0 {
			x.frozen = append(x.frozen, freeze.Cert)
		}
	}
	if bag := x.f.Bag(); len(bag) > 0 && x.IntN(2) == 0 {
		m := bag[max(0, len(bag)-1-int(x.ExpFloat64()*3))]
		return api.Op{Kind: []int{api.OpDeliver, api.OpDeliver, api.OpDeliver, api.OpDeliver, api.OpDeliver, api.OpDouble, api.OpDrop}[x.IntN(7)], Count: m.ID}
	}
	if down := slices.Index(x.f.Up(), false); down >= 0 && x.IntN(3) == 0 {
		return api.Op{Kind: api.OpRestart, Node: down}
	}
	gate, wallet, node, serial := 1+x.IntN(x.c.Gates), 1+x.IntN(x.c.Wallets), x.IntN(1+x.c.Gates+x.c.Wallets), 1+x.IntN(3)
	switch n := x.IntN(100); {
	case n < 8:
		return api.Op{Kind: api.OpBuy, Node: wallet, Count: 1 + x.IntN(9), Price: int64(x.IntN(3) * 10)}
	case n < 40:
		if s, _ := x.f.Wallet(wallet); len(s.Purses) > 0 {
			serial = s.Purses[x.IntN(len(s.Purses))].Cert.Serial
		}
		return api.Op{Kind: api.OpRide, Node: wallet, Count: serial, Other: gate}
	case n < 48:
		return api.Op{Kind: api.OpGossip + x.IntN(2), Node: gate, Other: 1 + x.IntN(x.c.Gates)}
	case n < 52:
		return api.Op{Kind: api.OpFreeze, Count: x.carnet()}
	case n < 60:
		if len(x.frozen) > 0 {
			serial = x.frozen[x.IntN(len(x.frozen))].Serial
		}
		return api.Op{Kind: api.OpPay, Count: serial}
	case n < 62:
		return api.Op{Kind: []int{api.OpRevoke, api.OpFloor, api.OpHead}[x.IntN(3)], Count: x.IntN(x.carnet() + 1)}
	case n < 66:
		return api.Op{Kind: api.OpCrash, Node: node, Count: 1 + x.IntN(2), Other: x.IntN(2) * x.IntN(300)}
	case n < 68:
		return api.Op{Kind: api.OpRestart, Node: node}
	}
	b := x.body()
	if _, err := terms.DecodeOrder(b); err == api.OK {
		node *= x.IntN(2)
	}
	return api.Op{Kind: api.OpInject, Node: node, Body: b}
}

// carnet is one that there is, if there is any.
func (x *enemy) carnet() int {
	s, _ := x.f.Issuer()
	return 1 + x.IntN(len(s.Carnets)+1)
}

// body is one that he injects: of every sort.
func (x *enemy) body() []byte {
	own := line{api.Hash{0xE6, byte(x.IntN(4))}, 0}
	own.rides = 1 + 2*int(own.seed[1])
	if len(x.told) == 0 || x.IntN(8) == 0 {
		return own.order()
	}
	seen := bytes.Clone(x.told[x.IntN(len(x.told))])
	switch x.IntN(6) {
	case 0:
		return seen
	case 1:
		seen[x.IntN(len(seen))] ^= 1 << x.IntN(8)
		return seen
	case 2:
		return junk()[x.IntN(15)]
	}
	if gate := 1 + x.IntN(x.c.Gates); len(x.frozen) > 0 && x.IntN(2) == 0 {
		cert := x.frozen[x.IntN(len(x.frozen))]
		return ackOf(x.seedOf(gate), gate, cert.Serial, 0, cert.Anchor) // that nothing was ridden brings the most back
	}
	var certs []api.Cert
	for _, b := range x.told {
		certs = append(certs, certsOf(b)...)
	}
	cert := ring.SealCert(x.seedOf(0), api.Cert{Serial: 1 + x.IntN(5), Rides: own.rides, Price: 3, Anchor: own.value(0)})
	if len(certs) > 0 && (x.IntN(4) > 0 || x.seeds[0] == api.Hash{}) {
		cert = certs[x.IntN(len(certs))]
	}
	return x.signed(cert)
}

// signed is a body with a certificate, or about it, by his seeds.
func (x *enemy) signed(cert api.Cert) []byte {
	rides := x.chainOf(cert)
	index := 1 + x.IntN(cert.Rides)
	gate := 1 + x.IntN(x.c.Gates)
	switch x.IntN(10) {
	case 0, 1, 2, 3:
		return ticketOf(cert, index, rides.value(index))
	case 4:
		return entryOf(cert, index, rides.value(index))
	case 5:
		return flagged(x.seedOf(0), cert, 0, cert.Anchor, x.IntN(2) == 0, x.IntN(2) == 0)
	case 6:
		return freezeOf(x.seedOf(0), cert)
	case 7:
		return [][]byte{floorOf(x.seedOf(0), cert.Serial), revocationOf(x.seedOf(0), cert), receiptOf(x.seedOf(0), cert.Serial)}[x.IntN(3)]
	}
	return ackOf(x.seedOf(gate), gate, cert.Serial, index, rides.value(index))
}

// values are all that a fleet's chains and the enemy's have, which many runs' models go from.
func (x *enemy) values() []api.Hash {
	var list []api.Hash
	for k := range 4 {
		own := line{api.Hash{0xE6, byte(k)}, 1 + 2*k}
		for i := range own.rides + 1 {
			list = append(list, own.value(i))
		}
	}
	return list
}

var drawnConfigs = []api.Config{
	{Gates: 2, Wallets: 2, Rows: 6, Flash: 20000, Serials: 6, Secret: api.Hash{27, 21}},
	{Gates: 3, Wallets: 1, Rows: 3, Flash: 1500, Serials: 5, Secret: api.Hash{27, 22}},
	{Gates: 1, Wallets: 1, Rows: 2, Flash: 4000, Serials: 4, Secret: api.Hash{27, 23}},
}

// outcome counts what came of an enemy's runs.
type outcome struct {
	sync.Mutex
	faulty, accepts, payouts int
	promises                 map[string]int // of the faults
	kinds                    [4]int         // of the breaks, 0 where there is none
}

// run draws so many operations; whenever something does not hold, a break must be found by then.
func (x *enemy) run(t *testing.T, operations int, met *outcome) {
	r := keysOf(x.c)
	faults := 0
	for range operations {
		o := x.next()
		x.do(o)
		if len(x.faults) == faults {
			continue
		}
		faults = len(x.faults)
		if b, found := extract.Total(r, x.f.Trace()); !found || !extract.Genuine(r, x.f.Trace(), b) {
			t.Fatalf("P27.7: %s, and nothing is found", x.faults[faults-1])
		}
	}
	trace := x.f.Trace()
	counts := wantModel(t, "a fleet", newModel(r, trace).shareWalks(x.values()), x.Rand)
	b, found := extract.Total(r, trace)
	if found != (counts != [3]int{}) {
		t.Errorf("P27.5: found %v, of %d breaks", found, counts)
	}
	if len(x.seeds) == 0 && (found || faults > 0) {
		t.Errorf("P27.7: an enemy without secrets: %s, %q", tell(b), x.faults)
	}
	met.Lock()
	defer met.Unlock()
	met.faulty += min(faults, 1)
	met.payouts += len(x.paid)
	for _, list := range x.accepts {
		met.accepts += len(list)
	}
	met.kinds[b.Kind]++
	for _, what := range x.faults {
		promise, _, _ := strings.Cut(what, ":")
		met.promises[promise]++
	}
}

// TestDrawnFleetsP27_7: fleets under drawn operations, by an enemy who has no node's seed, or the issuer's, a gate's, a wallet's, or all: P26.16 to P26.19 hold, or a break is found; and who has no seed breaks nothing.
func TestDrawnFleetsP27_7(t *testing.T) {
	secrets := map[string]func(c api.Config) []int{
		"nobody": func(api.Config) []int { return nil },
		"issuer": func(api.Config) []int { return []int{0} },
		"gate":   func(api.Config) []int { return []int{1} },
		"wallet": func(c api.Config) []int { return []int{c.Gates + 1} },
		"all":    func(c api.Config) []int { return []int{0, 1, 2, 3, 4}[:1+c.Gates+c.Wallets] },
	}
	met := map[string]*outcome{}
	for who := range secrets {
		met[who] = &outcome{promises: map[string]int{}}
	}
	t.Run("runs", func(t *testing.T) {
		for who, nodes := range secrets {
			for n := range 18 {
				t.Run(fmt.Sprint(who, n), func(t *testing.T) {
					t.Parallel()
					c := drawnConfigs[n%len(drawnConfigs)]
					enters(t, c, chance(uint64(100*len(who)+n)), nodes(c)...).run(t, 350, met[who])
				})
			}
		}
	})
	for who, x := range met {
		if x.accepts < 50 || x.payouts < 10 {
			t.Errorf("%s: %d accepts, %d payouts", who, x.accepts, x.payouts)
		}
	}
	nobody, issuer, gate, wallet, all := met["nobody"], met["issuer"], met["gate"], met["wallet"], met["all"]
	if nobody.faulty > 0 || nobody.kinds[0] != 18 {
		t.Errorf("P27.7: who has no seed has broken %v, %v", nobody.promises, nobody.kinds)
	}
	// What is found must have been needed: each of the seeds does break a promise.
	if issuer.promises["P26.16"] == 0 || gate.promises["P26.17"] == 0 || wallet.promises["P26.19"] == 0 || all.faulty == 0 {
		t.Errorf("the runs break too little: %v, %v, %v", issuer.promises, gate.promises, wallet.promises)
	}
	if issuer.kinds[api.BreakForgery] < 10 || gate.kinds[api.BreakForgery] < 10 || wallet.kinds[api.BreakPreimage] < 10 {
		t.Errorf("the runs show too little: %v, %v, %v", issuer.kinds, gate.kinds, wallet.kinds)
	}
}

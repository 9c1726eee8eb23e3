package fleet_test

import (
	"bytes"
	"cmp"
	"fmt"
	"math/rand/v2"
	"slices"
	"sync"
	"testing"

	"farebox/api"
	"farebox/ring"
	"farebox/script"
	"farebox/terms"
)

// drawn draws operations: those of riders, gates and an issuer, and those of an enemy, who sees all that is told and has chains and a seed of his own.
type drawn struct {
	*rand.Rand
	*rig
	seen   [][]byte // the bodies that were told
	events int
}

// enemySeed is whose signatures nobody believes.
var enemySeed = api.Hash{0xE7}

// enemys is one of the enemy's chains.
func enemys(k int) foreign {
	return foreign{chain: api.Hash{0xE6, byte(k)}, rides: 1 + 4*k, price: int64(10 * k)}
}

// next is the next operation.
func (d *drawn) next() api.Op {
	for _, e := range d.f.Trace()[d.events:] {
		d.events++
		if len(e.Body) > 0 && e.Kind == api.EventOut {
			d.seen = append(d.seen, e.Body)
		}
	}
	if bag := d.f.Bag(); len(bag) > 0 && d.IntN(100) < 55 {
		// The newest ones are the likeliest, so that what has begun comes to its end.
		at := max(0, len(bag)-1-int(d.ExpFloat64()*4))
		kind := map[int]int{0: api.OpDouble, 1: api.OpDrop}[d.IntN(14)]
		return api.Op{Kind: cmp.Or(kind, api.OpDeliver), Count: bag[at].ID}
	}
	if at := slices.Index(d.f.Up(), false); at >= 0 && d.IntN(3) == 0 {
		return api.Op{Kind: api.OpRestart, Node: at}
	}
	return d.other()
}

// other is an operation that is no delivery.
func (d *drawn) other() api.Op {
	serial := 1 + d.IntN(d.c.Serials)
	gate, wallet, node := 1+d.IntN(d.c.Gates), 1+d.IntN(d.c.Wallets), d.IntN(nodesOf(d.c))
	switch n := d.IntN(100); {
	case n < 6:
		return api.Op{Kind: api.OpBuy, Node: wallet, Count: 1 + d.IntN(20), Price: int64(d.IntN(3) * 100)}
	case n < 40:
		return api.Op{Kind: api.OpRide, Node: wallet, Count: d.purse(wallet, serial), Other: gate}
	case n < 49:
		return api.Op{Kind: api.OpGossip + d.IntN(2), Node: gate, Other: 1 + d.IntN(d.c.Gates)}
	case n < 54:
		return api.Op{Kind: api.OpFreeze, Count: d.carnet(serial, d.IntN(3)/2)}
	case n < 62:
		return api.Op{Kind: api.OpPay, Count: d.carnet(serial, 1)}
	case n < 63:
		return api.Op{Kind: api.OpRevoke, Count: serial}
	case n < 64:
		return api.Op{Kind: api.OpFloor, Count: 1 + d.IntN(serial)}
	case n < 80:
		return api.Op{Kind: api.OpInject, Node: node, Body: d.forged()}
	case n < 86:
		return api.Op{Kind: api.OpCrash, Node: node, Count: 1 + d.IntN(3), Other: d.IntN(3) * d.IntN(200)}
	case n < 89:
		return api.Op{Kind: api.OpRestart, Node: node}
	case n < 96:
		return api.Op{Kind: api.OpHead + d.IntN(7), Node: gate, Count: serial}
	}
	return api.Op{Kind: d.IntN(24) - 1, Node: d.IntN(8) - 2, Other: d.IntN(8) - 2, Count: d.IntN(12) - 2, Price: int64(d.IntN(3)), Body: []byte{'F', 'B', 1}}
}

// purse is mostly a serial that the wallet has a certificate of.
func (d *drawn) purse(wallet, serial int) int {
	s, _ := d.f.Wallet(wallet)
	if len(s.Purses) == 0 || d.IntN(8) == 0 {
		return serial
	}
	return s.Purses[d.IntN(len(s.Purses))].Cert.Serial
}

// carnet is mostly a serial that is being refunded (1), or is not (0).
func (d *drawn) carnet(serial, freezing int) int {
	s, _ := d.f.Issuer()
	var list []int
	for _, x := range s.Carnets {
		if x.Status == api.Issued+freezing {
			list = append(list, x.Cert.Serial)
		}
	}
	if len(list) == 0 || d.IntN(8) == 0 {
		return serial
	}
	return list[d.IntN(len(list))]
}

// forged is a body by the enemy.
func (d *drawn) forged() []byte {
	x := enemys(d.IntN(4))
	if len(d.seen) == 0 || d.IntN(4) == 0 {
		x.price += int64(d.IntN(5) / 4) // of an anchor that is sold at another price
		return x.order()
	}
	old := bytes.Clone(d.seen[d.IntN(len(d.seen))])
	switch d.IntN(7) {
	case 0, 1:
		return old
	case 2:
		old[d.IntN(len(old))] ^= 1 << d.IntN(8)
		return old
	case 3:
		return told(terms.EncodeFloor, ring.SealFloor(enemySeed, api.Floor{Floor: 1 + d.IntN(d.c.Serials)}))
	case 4:
		// That nothing was ridden would bring the most back: the value is the anchor, which everybody knows.
		ticket, err := terms.DecodeTicket(old)
		if err != api.OK {
			return old
		}
		return told(terms.EncodeAck, ring.SealAck(enemySeed, api.Ack{Serial: ticket.Cert.Serial, Gate: 1 + d.IntN(d.c.Gates), Value: ticket.Cert.Anchor}))
	}
	return d.ridden(x, old)
}

// ridden is a ticket or an entry of one of the enemy's carnets, if he has seen its certificate; else one of another certificate with a value that he has made up, or with one that was told.
func (d *drawn) ridden(x foreign, old []byte) []byte {
	for _, body := range d.seen {
		if cert, err := terms.DecodeCert(body); err == api.OK && cert.Anchor == x.value(0) {
			index := 1 + d.IntN(x.rides)
			if d.IntN(3) == 0 {
				return told(terms.EncodeEntry, api.Entry{Cert: cert, Index: index, Value: x.value(index)})
			}
			return told(terms.EncodeTicket, api.Ticket{Cert: cert, Index: index, Value: x.value(index)})
		}
	}
	ticket, err := terms.DecodeTicket(old)
	if err != api.OK {
		return old
	}
	ticket.Index = 1 + d.IntN(ticket.Cert.Rides)
	if d.IntN(2) == 0 {
		ticket.Value = api.Hash{byte(ticket.Index)}
	}
	if d.IntN(2) == 0 {
		return told(terms.EncodeEntry, api.Entry{Cert: ticket.Cert, Index: ticket.Index, Value: ticket.Value})
	}
	return told(terms.EncodeTicket, ticket)
}

// drawnConfigs are what the runs go through: roomy flashes and tables, and ones that are too small.
var drawnConfigs = []api.Config{
	{Gates: 2, Wallets: 2, Rows: 6, Flash: 20000, Serials: 6, Secret: api.Hash{26, 21}},
	{Gates: 3, Wallets: 1, Rows: 3, Flash: 1500, Serials: 5, Secret: api.Hash{26, 22}},
	{Gates: 2, Wallets: 1, Rows: 8, Flash: 800, Serials: 4, Secret: api.Hash{26, 23}},
	{Gates: 1, Wallets: 2, Rows: 2, Flash: 3000, Serials: 8, Secret: api.Hash{26, 24}},
}

// tally counts what was met in runs that go side by side.
type tally struct {
	sync.Mutex
	met map[string]int
}

func (x *tally) add(what string) {
	x.Lock()
	defer x.Unlock()
	x.met[what]++
}

// want asks that each of these was met.
func (x *tally) want(t *testing.T, least int, list ...string) {
	t.Helper()
	for _, what := range list {
		if x.met[what] < least {
			t.Errorf("%q was met %d times: %v", what, x.met[what], x.met)
		}
	}
}

// runs draws so many operations in each of so many fleets; step does one.
func runs(t *testing.T, fleets, operations int, begun func(d *drawn) (step func(o api.Op))) {
	t.Run("runs", func(t *testing.T) {
		for n := range fleets {
			t.Run(fmt.Sprint(n), func(t *testing.T) {
				t.Parallel()
				c := drawnConfigs[n%len(drawnConfigs)]
				d := &drawn{Rand: chance(uint64(1000 + n)), rig: begin(t, c)}
				step := begun(d)
				for range operations {
					step(d.next())
				}
			})
		}
	})
}

// TestDrawnP26: drawn operations, beside the model.
func TestDrawnP26(t *testing.T) {
	met := &tally{met: map[string]int{}}
	runs(t, 24, 250, func(d *drawn) func(o api.Op) {
		m := newModel(d.c)
		seen := 0
		return func(o api.Op) {
			got, want := d.f.Do(o), m.do(o)
			line, _ := script.Format(o)
			if !sameReply(got, want) {
				d.t.Fatalf("%s = %s, want %s", line, script.Show(got), script.Show(want))
			}
			trace := d.f.Trace()
			if len(trace) != len(m.trace) || !slices.EqualFunc(trace[seen:], m.trace[seen:], sameEvent) {
				d.t.Fatalf("%s tells %q, want %q", line, tellEvents(trace[seen:]), tellEvents(m.trace[min(seen, len(m.trace)):]))
			}
			seen = len(trace)
			if !sameLook(lookAt(d.c, d.f), m.look()) {
				d.t.Fatalf("behind %s the fleet is not the model", line)
			}
			met.add(fmt.Sprintf("kind %d", o.Kind))
			met.add(fmt.Sprintf("error %d", got.Err))
		}
	})
	for kind := range 23 {
		met.want(t, 1, fmt.Sprintf("kind %d", kind))
	}
	for _, err := range []api.Errno{0, 2, 90, 91, 110, 121, 150, 170, 172, 180, 181, 190, 191, 192, 193, 211, 230, 231, 232, 240, 260, 261} {
		met.want(t, 1, fmt.Sprintf("error %d", err))
	}
}

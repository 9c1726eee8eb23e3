package extract_test

import (
	"bytes"
	"fmt"
	"math/rand/v2"
	"slices"
	"sync"
	"testing"

	"farebox/api"
	"farebox/chain"
	"farebox/extract"
	"farebox/ring"
	"farebox/terms"
)

// odd draws traces that no fleet has made: bodies of all kinds, told and shown by whomever, whose values, indexes and anchors are mixed up.
type odd struct {
	*rand.Rand
	values []api.Hash // of two chains, and what is of none
	signed [][]byte   // bodies with signatures, good and bad
}

func newOdd(n uint64) *odd {
	d := &odd{Rand: chance(n)}
	for _, x := range []line{{api.Hash{0x31}, 9}, {api.Hash{0x32}, 6}} {
		for i := range x.rides + 1 {
			d.values = append(d.values, x.value(i))
		}
	}
	d.values = append(d.values, api.Hash{}, api.Hash{0x33})
	for range 6 {
		d.signed = append(d.signed, d.sign())
	}
	return d
}

func (d *odd) value() api.Hash { return d.values[d.IntN(len(d.values))] }

// seed is mostly a node's.
func (d *odd) seed(node int) api.Hash {
	switch d.IntN(6) {
	case 0:
		return stranger
	case 1:
		return seed(d.IntN(4))
	}
	return seed(node)
}

// sign is a body with a signature.
func (d *odd) sign() []byte {
	cert := ring.SealCert(d.seed(0), api.Cert{Serial: 1 + d.IntN(2), Rides: 1 + d.IntN(9), Anchor: d.value()})
	switch d.IntN(9) {
	case 0:
		return body(terms.EncodeCert, cert)
	case 1:
		return freezeOf(d.seed(0), cert)
	case 2:
		return revocationOf(d.seed(0), cert)
	case 3:
		return floorOf(d.seed(0), 1+d.IntN(3))
	case 4:
		return receiptOf(d.seed(0), 1+d.IntN(3))
	case 5:
		return headOf(d.seed(0), d.IntN(3))
	case 6:
		return flagged(d.seed(0), cert, d.IntN(cert.Rides+1), d.value(), d.IntN(2) == 0, d.IntN(2) == 0)
	}
	gate := 1 + d.IntN(4)
	return ackOf(d.seed(min(gate, 3)), gate, 1, d.IntN(5), d.value())
}

// body is any one.
func (d *odd) body() []byte {
	cert := bare(d.value(), 1+d.IntN(10))
	switch n := d.IntN(20); {
	case n < 4:
		return orderOf(d.value(), 1+d.IntN(9))
	case n < 10:
		return ticketOf(cert, 1+d.IntN(cert.Rides), d.value())
	case n < 13:
		return entryOf(cert, d.IntN(cert.Rides+1), d.value())
	case n < 14:
		return bareAck(d.value())
	case n < 15:
		return junk()[d.IntN(15)]
	}
	return d.signed[d.IntN(len(d.signed))]
}

// truly is a ticket or an entry whose value leads to its anchor.
func (d *odd) truly() []byte {
	chained := []line{{api.Hash{0x31}, 9}, {api.Hash{0x32}, 6}}[d.IntN(2)]
	from := d.IntN(chained.rides)
	index := 1 + d.IntN(chained.rides-from)
	cert := bare(chained.value(from), index+d.IntN(3))
	if d.IntN(2) == 0 {
		return ticketOf(cert, index, chained.value(from+index))
	}
	return entryOf(cert, index, chained.value(from+index))
}

func (d *odd) event() api.Event {
	e := api.Event{Kind: api.EventOut + d.IntN(2), Node: d.IntN(6) - 1, Body: d.body()}
	if d.IntN(5) < 2 {
		e.Body = d.truly()
	}
	if d.IntN(12) == 0 {
		e.Kind = d.IntN(13) - 1
	}
	return e
}

func (d *odd) ring() api.Ring {
	r := keys()
	switch d.IntN(8) {
	case 0:
		return api.Ring{Issuer: r.Issuer, Gates: r.Gates[:d.IntN(3)]}
	case 1:
		return api.Ring{Issuer: r.Gates[1], Gates: []api.Key{r.Issuer, r.Gates[2], {1}, r.Gates[0]}}
	}
	return r
}

// walked are walks that all models share.
var walked sync.Map

// shareWalks lets a model have the walks from the values that many traces have.
func (m *model) shareWalks(values []api.Hash) *model {
	for _, v := range values {
		list, there := walked.Load(v)
		if !there {
			list, _ = walked.LoadOrStore(v, newModel(api.Ring{}, nil).walk(v))
		}
		m.walks[v] = list.([]api.Hash)
	}
	return m
}

// wantModel holds all six calls against the model; it answers how many breaks of each kind there are.
func wantModel(t *testing.T, what string, m *model, d *rand.Rand) [3]int {
	t.Helper()
	if got, want := extract.Published(m.trace), m.published(); !slices.Equal(got, want) {
		t.Errorf("P27.1: %s: published is %x, want %x", what, got, want)
	}
	kinds := m.kinds()
	var total []api.Break
	var counts [3]int
	for i, find := range []call{extract.Forgery, extract.Preimage, extract.Stray} {
		total = append(total, kinds[i]...)
		counts[i] = len(kinds[i])
		wantFirst(t, fmt.Sprintf("P27.%d: %s", i+2, what), find, m, kinds[i])
	}
	wantFirst(t, "P27.5: "+what, extract.Total, m, total)
	for i, b := range total {
		if i > 20 && d.IntN(10) > 0 {
			continue
		}
		wantGenuine(t, what, m.r, m.trace, b, true)
		list := changed(b)
		for range 3 {
			for name, x := range list { // any one
				want := slices.ContainsFunc(total, func(y api.Break) bool { return sameBreak(x, y) })
				wantGenuine(t, what+", "+name, m.r, m.trace, x, want)
				break
			}
		}
	}
	return counts
}

func wantFirst(t *testing.T, what string, find call, m *model, list []api.Break) {
	t.Helper()
	b, found := find(m.r, m.trace)
	switch {
	case len(list) == 0 && (found || !isZero(b)):
		t.Errorf("%s: found %v, %s", what, found, tell(b))
	case len(list) > 0 && (!found || !sameBreak(b, list[0])):
		t.Errorf("%s: found %v, %s, want %s", what, found, tell(b), tell(list[0]))
	}
}

// TestOddTracesP27: traces that no fleet made, beside the model.
func TestOddTracesP27(t *testing.T) {
	var lock sync.Mutex
	met, none := [3]int{}, 0
	t.Run("traces", func(t *testing.T) {
		for n := range uint64(16) {
			t.Run(fmt.Sprint(n), func(t *testing.T) {
				t.Parallel()
				d := newOdd(n)
				for k := range 16 {
					var trace []api.Event
					for range d.IntN(50) {
						trace = append(trace, d.event())
					}
					r := d.ring()
					counts := wantModel(t, fmt.Sprint("trace ", k), newModel(r, trace).shareWalks(d.values), d.Rand)
					lock.Lock()
					for i, count := range counts {
						met[i] += min(count, 1)
					}
					if counts == [3]int{} {
						none++
					}
					lock.Unlock()
				}
			})
		}
	})
	if met[0] < 20 || met[1] < 20 || met[2] < 10 || none < 5 {
		t.Errorf("traces with each kind: %d, with none: %d", met, none)
	}
}

// TestOddEventsP27: events with numbers that no fleet tells, bodies of all lengths, rings of all sizes: every call ends, and what stands beside the bodies is not asked.
func TestOddEventsP27(t *testing.T) {
	d := newOdd(99)
	var trace []api.Event
	for i := range 60 {
		e := d.event()
		e.Serial, e.Index, e.Amount = int(d.Uint64()), int(d.Uint64()), int64(d.Uint64())
		if i%4 == 0 {
			e.Kind, e.Node = int(d.Uint64()), int(d.Uint64())
		}
		if i%5 == 0 {
			e.Body = bytes.Repeat([]byte{byte(i)}, i*40)
		}
		if i%7 == 0 {
			e.Body = make([]byte, d.IntN(400))
			copy(e.Body, []byte{'F', 'B', 1, byte(1 + d.IntN(10))})
		}
		trace = append(trace, e)
	}
	m := newModel(keys(), trace).shareWalks(d.values)
	counts := wantModel(t, "odd numbers", m, d.Rand)
	if counts[0] == 0 || counts[1] == 0 {
		t.Errorf("of each kind: %d", counts)
	}
	plain := slices.Clone(trace)
	for i := range plain {
		plain[i].Serial, plain[i].Index, plain[i].Amount = 0, 0, 0
	}
	for promise, find := range calls() {
		a, one := find(keys(), trace)
		b, two := find(keys(), plain)
		if one != two || !sameBreak(a, b) {
			t.Errorf("%s: what stands beside the bodies was asked", promise)
		}
		for _, r := range []api.Ring{{}, {Gates: make([]api.Key, 1000)}, {Issuer: api.Key{1}}} {
			b, found := find(r, trace)
			if found && !extract.Genuine(r, trace, b) {
				t.Errorf("P27.6: %s is not genuine", tell(b))
			}
		}
	}
}

// TestManyBodiesP27: long traces of long chains end soon: a chain's rides, told one after the other, and shown, and those of a chain that nobody has told.
func TestManyBodiesP27(t *testing.T) {
	var values [2][]api.Hash // from the last ride down to the anchor
	for i := range values {
		v := api.Hash{0x41, byte(i)}
		for range api.MaxRides + 1 {
			values[i] = append(values[i], v)
			v = chain.Step(v)
		}
		slices.Reverse(values[i])
	}
	mine, theirs := values[0], values[1]
	cert, foreign := bare(mine[0], api.MaxRides), bare(theirs[0], api.MaxRides)
	trace := []api.Event{out(4, orderOf(mine[0], api.MaxRides))}
	for i := 1; i <= api.MaxRides; i++ {
		trace = append(trace, out(4, ticketOf(cert, i, mine[i])), inject(ticketOf(cert, i, mine[i])), inject(entryOf(foreign, i, theirs[i])))
		if i%64 == 0 {
			trace = append(trace, inject(ticketOf(cert, i, mine[i/2])))
		}
	}
	wantNone(t, "P27.5: long chains", extract.Total, keys(), trace)
	if got := extract.Published(trace); !slices.Equal(got, mine) {
		t.Errorf("P27.1: %d values are published", len(got))
	}
	last := append(trace, inject(bareAck(theirs[4096])), out(4, orderOf(theirs[7], 1)), inject(bareAck(theirs[4096])))
	wantBreak(t, "P27.3: long chains", extract.Preimage, keys(), last, preimage(theirs[4096], 4089))
}

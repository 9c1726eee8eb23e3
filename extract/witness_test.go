package extract_test

import (
	"bytes"
	"fmt"

	"farebox/api"
	"farebox/fleet"
	"farebox/terms"
)

// witness looks at a fleet from New on, behind each operation, and writes down where P26.16 to P26.19 do not hold.
type witness struct {
	c        api.Config
	f        *fleet.Fleet
	events   int
	faults   []string
	certs    map[int]api.Cert  // that the issuer has told, by serial
	shown    [][]byte          // the bodies that were injected
	anchors  map[api.Hash]bool // that a wallet has told in an order, and nobody had shown ahead of it
	revealed map[int]int       // the highest index, by serial
	accepts  map[int][]taken   // by serial
	gates    []gateKept        // by number
	paid     map[int]int       // the rides that were paid back, by serial
}

// taken is an accept; its depth counts those of which each was known at the gate of the next.
type taken struct{ index, depth int }

// gateKept is what a gate has stored.
type gateKept struct {
	index   map[int]int  // the greatest, by serial
	retired map[int]bool // serials that were frozen or revoked
	floor   int
}

func watching(c api.Config, f *fleet.Fleet) *witness {
	w := &witness{c: c, f: f, certs: map[int]api.Cert{}, anchors: map[api.Hash]bool{}, revealed: map[int]int{}, accepts: map[int][]taken{}, paid: map[int]int{}}
	for range c.Gates + 1 {
		w.gates = append(w.gates, gateKept{map[int]int{}, map[int]bool{}, 0})
	}
	return w
}

// do does an operation, and looks at what has come of it.
func (w *witness) do(o api.Op) api.Reply {
	reply := w.f.Do(o)
	trace := w.f.Trace()
	for _, e := range trace[w.events:] {
		w.event(e)
	}
	w.events = len(trace)
	for gate := 1; gate <= w.c.Gates; gate++ {
		// What a gate has stored when it went down was not told.
		s, _ := w.f.Gate(gate)
		g := &w.gates[gate]
		g.floor = max(g.floor, s.Floor.Floor)
		for _, row := range s.Rows {
			w.stores(gate, row.Cert.Serial, row.Index)
			g.retired[row.Cert.Serial] = g.retired[row.Cert.Serial] || row.Frozen || row.Revoked
		}
	}
	return reply
}

func (w *witness) fault(promise, what string, e api.Event) {
	w.faults = append(w.faults, fmt.Sprintf("%s: %s: node %d, serial %d, index %d", promise, what, e.Node, e.Serial, e.Index))
}

func (w *witness) event(e api.Event) {
	switch e.Kind {
	case api.EventInject:
		w.shown = append(w.shown, e.Body)
	case api.EventOut:
		w.told(e)
	case api.EventReveal:
		w.revealed[e.Serial] = max(w.revealed[e.Serial], e.Index)
	case api.EventAccept:
		w.accept(e)
	case api.EventStore:
		w.stores(e.Node, e.Serial, e.Index)
	case api.EventRetire:
		g := &w.gates[e.Node]
		g.floor = max(g.floor, e.Index)
		g.retired[e.Serial] = g.retired[e.Serial] || e.Serial > 0
	case api.EventPay:
		w.pays(e)
	}
}

// told looks at a body that a node has told.
func (w *witness) told(e api.Event) {
	if x, err := terms.DecodeOrder(e.Body); err == api.OK && e.Node > w.c.Gates {
		ahead := false
		for _, b := range w.shown {
			ahead = ahead || bytes.Contains(b, x.Anchor[:])
		}
		w.anchors[x.Anchor] = w.anchors[x.Anchor] || !ahead
	}
	if x, err := terms.DecodeAck(e.Body); err == api.OK && x.Index != w.gates[x.Gate].index[x.Serial] {
		w.fault("P26.17", "an acknowledgement of what is not stored", e)
	}
	if e.Node > 0 {
		return
	}
	for _, cert := range certsOf(e.Body) {
		w.certs[cert.Serial] = cert
	}
}

// certsOf is the certificate in what the issuer tells of one, or none.
func certsOf(b []byte) []api.Cert {
	if x, err := terms.DecodeCert(b); err == api.OK {
		return []api.Cert{x}
	}
	if x, err := terms.DecodeFreeze(b); err == api.OK {
		return []api.Cert{x.Cert}
	}
	if x, err := terms.DecodeRevocation(b); err == api.OK {
		return []api.Cert{x.Cert}
	}
	return nil
}

func (w *witness) accept(e api.Event) {
	cert, known := w.certs[e.Serial]
	g := w.gates[e.Node]
	stored := g.index[e.Serial]
	if !known || e.Index < 1 || e.Index > cert.Rides {
		w.fault("P26.16", "an accept of what the issuer has not told of", e)
	}
	if e.Index <= stored {
		w.fault("P26.16", "an accept that is not above what is stored", e)
	}
	if g.retired[e.Serial] || e.Serial < g.floor {
		w.fault("P26.18", "an accept of what is retired", e)
	}
	if back, paid := w.paid[e.Serial]; paid && e.Index > cert.Rides-back {
		w.fault("P26.17", "an accept of what is paid back", e)
	}
	w.above(e)
	x := taken{e.Index, 1}
	for _, a := range w.accepts[e.Serial] {
		if a.index <= stored {
			x.depth = max(x.depth, a.depth+1)
		}
	}
	w.accepts[e.Serial] = append(w.accepts[e.Serial], x)
	if x.depth > cert.Rides || len(w.accepts[e.Serial]) > cert.Rides*w.c.Gates {
		w.fault("P26.16", "more accepts than rides", e)
	}
}

// above is P26.19 of an index that a gate has accepted or stored.
func (w *witness) above(e api.Event) {
	if w.anchors[w.certs[e.Serial].Anchor] && e.Index > w.revealed[e.Serial] {
		w.fault("P26.19", "what was not revealed", e)
	}
}

func (w *witness) stores(gate, serial, index int) {
	g := w.gates[gate]
	if index > g.index[serial] {
		w.above(api.Event{Node: gate, Serial: serial, Index: index})
		g.index[serial] = index
	}
}

func (w *witness) pays(e api.Event) {
	cert := w.certs[e.Serial]
	if _, paid := w.paid[e.Serial]; paid || e.Amount != int64(e.Index)*cert.Price {
		w.fault("P26.17", "a second payout, or one of another amount", e)
	}
	left := cert.Rides - e.Index
	w.paid[e.Serial] = e.Index
	for _, a := range w.accepts[e.Serial] {
		if a.index > left {
			w.fault("P26.17", "what was accepted is paid back", e)
		}
	}
	if w.anchors[cert.Anchor] && left > w.revealed[e.Serial] {
		w.fault("P26.19", "a payout leaves what was not revealed", e)
	}
	if s, up := w.f.Issuer(); up && s.Carnets[e.Serial-1].Paid != e.Amount {
		w.fault("P26.17", "the issuer holds something else", e)
	}
}

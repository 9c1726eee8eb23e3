package extract_test

import (
	"bytes"
	"slices"

	"farebox/api"
	"farebox/chain"
	"farebox/sign"
	"farebox/terms"
)

// model reads the chapter's words plainly: for each shown body it asks all earlier events anew, and lists all breaks of it.
type model struct {
	r     api.Ring
	trace []api.Event
	walks map[api.Hash][]api.Hash // what MaxRides steps from a value lead to, one after the other
}

func newModel(r api.Ring, trace []api.Event) *model {
	return &model{r, trace, map[api.Hash][]api.Hash{}}
}

// toldAhead are the bodies that were told ahead of an event: by that node, or by any (-99).
func (m *model) toldAhead(at, node int) [][]byte {
	var list [][]byte
	for _, e := range m.trace[:at] {
		if e.Kind == api.EventOut && (e.Node == node || node == anyNode) {
			list = append(list, e.Body)
		}
	}
	return list
}

const anyNode = -99

// publishedBy lists what bodies publish.
func publishedBy(bodies [][]byte) []api.Hash {
	var list []api.Hash
	for _, b := range bodies {
		if x, err := terms.DecodeOrder(b); err == api.OK && !slices.Contains(list, x.Anchor) {
			list = append(list, x.Anchor)
		}
		if x, err := terms.DecodeTicket(b); err == api.OK && !slices.Contains(list, x.Value) {
			list = append(list, x.Value)
		}
	}
	return list
}

func (m *model) published() []api.Hash { return publishedBy(m.toldAhead(len(m.trace), anyNode)) }

// knownAhead is what is known ahead of an event.
func (m *model) knownAhead(at int) map[api.Hash]bool {
	known := map[api.Hash]bool{}
	bodies := m.toldAhead(at, anyNode)
	for _, v := range publishedBy(bodies) {
		known[v] = true
	}
	for _, b := range bodies {
		if x, err := terms.DecodeTicket(b); err == api.OK {
			v := x.Value
			for range x.Index {
				v = chain.Step(v)
				known[v] = true
			}
		}
	}
	return known
}

// forgeries are those of the body that an event shows.
func (m *model) forgeries(at int) []api.Break {
	var list []api.Break
	says, sigs, _ := terms.Said(m.trace[at].Body)
	for i := range says {
		node, key := 0, m.r.Issuer
		if domain, _ := terms.Domain(says[i]); domain == api.DomainAck {
			x, _ := terms.DecodeAck(m.trace[at].Body)
			if x.Gate > len(m.r.Gates) {
				continue
			}
			node, key = x.Gate, m.r.Gates[x.Gate-1]
		}
		if !m.hasSaid(at, node, says[i], sigs[i]) && sign.Verify(key, says[i], sigs[i]) {
			list = append(list, api.Break{Kind: api.BreakForgery, Key: key, Say: says[i], Sig: sigs[i]})
		}
	}
	return list
}

func (m *model) hasSaid(at, node int, say []byte, sig api.Sig) bool {
	for _, b := range m.toldAhead(at, node) {
		says, sigs, _ := terms.Said(b)
		for i := range says {
			if bytes.Equal(says[i], say) && sigs[i] == sig {
				return true
			}
		}
	}
	return false
}

// preimages are those of the body that an event shows, by their steps.
func (m *model) preimages(at int) []api.Break {
	var v api.Hash
	b := m.trace[at].Body
	if x, err := terms.DecodeTicket(b); err == api.OK {
		v = x.Value
	} else if x, err := terms.DecodeEntry(b); err == api.OK {
		v = x.Value
	} else if x, err := terms.DecodeAck(b); err == api.OK {
		v = x.Value
	} else {
		return nil
	}
	known := m.knownAhead(at)
	if known[v] {
		return nil
	}
	var list []api.Break
	for i, w := range m.walk(v) {
		if known[w] {
			list = append(list, api.Break{Kind: api.BreakPreimage, Value: v, Steps: i + 1})
		}
	}
	return list
}

func (m *model) walk(v api.Hash) []api.Hash {
	if m.walks[v] == nil {
		w := v
		for range api.MaxRides {
			w = chain.Step(w)
			m.walks[v] = append(m.walks[v], w)
		}
	}
	return m.walks[v]
}

// strays are those of the body that an event shows: one, or none.
func (m *model) strays(at int) []api.Break {
	var x api.Ticket
	if e, err := terms.DecodeEntry(m.trace[at].Body); err == api.OK {
		x = api.Ticket{Cert: e.Cert, Index: e.Index, Value: e.Value}
	} else if x, err = terms.DecodeTicket(m.trace[at].Body); err != api.OK {
		return nil
	}
	ordered := false
	for _, b := range m.toldAhead(at, anyNode) {
		if o, err := terms.DecodeOrder(b); err == api.OK && o.Anchor == x.Cert.Anchor {
			ordered = true
		}
		if y, err := terms.DecodeTicket(b); err == api.OK && y.Cert.Anchor == x.Cert.Anchor && y.Index >= x.Index {
			if chain.Link(x.Index, x.Value, y.Index, y.Value) {
				return nil
			}
		}
	}
	if x.Index < 1 || x.Index > x.Cert.Rides || !ordered || !m.knownAhead(at)[x.Value] || !chain.Check(x.Cert.Anchor, x.Cert.Rides, x.Index, x.Value) {
		return nil
	}
	return []api.Break{{Kind: api.BreakStray, Value: x.Value, Steps: x.Index}}
}

// all are the breaks of one kind, by the order of the shown bodies.
func (m *model) all(of func(at int) []api.Break) []api.Break {
	var list []api.Break
	for at, e := range m.trace {
		if e.Kind == api.EventInject {
			list = append(list, of(at)...)
		}
	}
	return list
}

// kinds are the lists of all breaks, by their kind less one.
func (m *model) kinds() [3][]api.Break {
	return [3][]api.Break{m.all(m.forgeries), m.all(m.preimages), m.all(m.strays)}
}

package fleet

import (
	"farebox/api"
	"farebox/gate"
	"farebox/issuer"
	"farebox/table"
	"farebox/terms"
)

// done tells what a node has done, by its answer, which is OK.
type done func(a api.Answer) []api.Event

// nothing is what there is to tell of most answers.
func nothing(api.Answer) []api.Event { return nil }

// watch looks at a node ahead of its Take of a body: behind it, it can tell what has changed there.
func (f *Fleet) watch(number int, body []byte) done {
	switch n := f.running(number).(type) {
	case issuerNode:
		return watchIssuer(n.Issuer, body)
	case gateNode:
		return watchGate(n.Gate, number, body)
	}
	return nothing
}

// watchIssuer watches for a new carnet: one that is ordered once more has the serial that it had.
func watchIssuer(i *issuer.Issuer, body []byte) done {
	x, err := terms.DecodeOrder(body)
	if err != api.OK {
		return nothing
	}
	issued := len(i.State().Carnets)
	return func(a api.Answer) []api.Event {
		serial := int(a.Nums[0])
		if serial <= issued {
			return nil
		}
		return []api.Event{{Kind: api.EventIssue, Node: issuerNumber, Serial: serial, Index: x.Rides, Amount: x.Price}}
	}
}

// watchGate watches for what is accepted, stored and retired.
func watchGate(g *gate.Gate, number int, body []byte) done {
	domain, err := terms.Domain(body)
	if err != api.OK {
		return nothing
	}
	before := g.State()
	return func(a api.Answer) []api.Event {
		if domain == api.DomainFloor {
			return []api.Event{{Kind: api.EventRetire, Node: number, Index: int(a.Nums[0])}}
		}
		serial := int(a.Nums[0])
		var told []api.Event
		if domain == api.DomainTicket {
			told = append(told, api.Event{Kind: api.EventAccept, Node: number, Serial: serial, Index: int(a.Nums[1])})
		}
		if row, changed := storedRow(before, g.State(), serial); changed {
			told = append(told, api.Event{Kind: api.EventStore, Node: number, Serial: serial, Index: row.Index})
		}
		if domain == api.DomainFreeze || domain == api.DomainRevoke {
			told = append(told, api.Event{Kind: api.EventRetire, Node: number, Serial: serial})
		}
		return told
	}
}

// storedRow is a serial's row behind a Take, and whether it is new or has changed: where there was none, it is held against the entry of zeros.
func storedRow(before, after api.GateState, serial int) (api.Entry, bool) {
	was, _ := table.Find(before, serial)
	row, _ := table.Find(after, serial)
	return row, row != was
}

// paid tells a refund.
func paid(serial int) done {
	return func(a api.Answer) []api.Event {
		return []api.Event{{Kind: api.EventPay, Node: issuerNumber, Serial: serial, Index: int(a.Nums[0]), Amount: a.Nums[1]}}
	}
}

// revealed tells a wallet's ride.
func revealed(number int) done {
	return func(a api.Answer) []api.Event {
		return []api.Event{{Kind: api.EventReveal, Node: number, Serial: int(a.Nums[0]), Index: int(a.Nums[1])}}
	}
}

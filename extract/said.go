package extract

import (
	"iter"

	"farebox/api"
	"farebox/terms"
)

// told goes over the bodies that were told, each beside its place in the trace.
func told(trace []api.Event) iter.Seq2[int, []byte] { return bodies(trace, api.EventOut) }

// shown goes over the bodies that were shown, each beside its place in the trace.
func shown(trace []api.Event) iter.Seq2[int, []byte] { return bodies(trace, api.EventInject) }

func bodies(trace []api.Event, kind int) iter.Seq2[int, []byte] {
	return func(yield func(int, []byte) bool) {
		for at, e := range trace {
			if e.Kind == kind && !yield(at, e.Body) {
				return
			}
		}
	}
}

// says goes over what a body says, with the signatures; one that cannot be read says nothing.
func says(body []byte) iter.Seq2[[]byte, api.Sig] {
	return func(yield func([]byte, api.Sig) bool) {
		list, sigs, _ := terms.Said(body)
		for i, say := range list {
			if !yield(say, sigs[i]) {
				return
			}
		}
	}
}

// owner is the node whose key must verify all that a body says, with that key. (What an acknowledgement says is said by no other kind, and with nothing else beside it.)
func owner(r api.Ring, body []byte) (int, api.Key, bool) {
	x, err := terms.DecodeAck(body)
	switch {
	case err != api.OK:
		return 0, r.Issuer, true
	case x.Gate > len(r.Gates):
		return 0, api.Key{}, false
	}
	return x.Gate, r.Gates[x.Gate-1], true
}

// published is the value that a body publishes, if it is told: an order's or a ticket's.
func published(body []byte) (api.Hash, bool) {
	if x, err := terms.DecodeOrder(body); err == api.OK {
		return x.Anchor, true
	}
	x, err := terms.DecodeTicket(body)
	return x.Value, err == api.OK
}

// valueOf is the value of a body: a ticket's, an entry's or an acknowledgement's.
func valueOf(body []byte) (api.Hash, bool) {
	if x, err := terms.DecodeAck(body); err == api.OK {
		return x.Value, true
	}
	x, _, there := rideOf(body)
	return x.value, there
}

// ride is a value as that of an index of the carnet with an anchor.
type ride struct {
	anchor api.Hash
	index  int
	value  api.Hash
}

// rideOf is the ride of a ticket or an entry, and how many its certificate has.
func rideOf(body []byte) (ride, int, bool) {
	if x, err := terms.DecodeTicket(body); err == api.OK {
		return ride{x.Cert.Anchor, x.Index, x.Value}, x.Cert.Rides, true
	}
	x, err := terms.DecodeEntry(body)
	return ride{x.Cert.Anchor, x.Index, x.Value}, x.Cert.Rides, err == api.OK
}

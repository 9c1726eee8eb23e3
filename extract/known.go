package extract

import (
	"farebox/api"
	"farebox/chain"
	"farebox/terms"
)

// firsts holds of each thing that was told the place of the event that told it first.
type firsts[K comparable] map[K]int

// tell lays down that a thing was told at a place behind all earlier ones; whether it is new.
func (f firsts[K]) tell(x K, at int) bool {
	if _, there := f[x]; there {
		return false
	}
	f[x] = at
	return true
}

// ahead tells whether a thing was told ahead of a place.
func (f firsts[K]) ahead(x K, at int) bool {
	first, there := f[x]
	return there && first < at
}

// saying is what a node has said.
type saying struct {
	node int
	say  string
	sig  api.Sig
}

// sayings are what the nodes have said in a trace.
func sayings(trace []api.Event) firsts[saying] {
	list := firsts[saying]{}
	for at, body := range told(trace) {
		for say, sig := range says(body) {
			list.tell(saying{trace[at].Node, string(say), sig}, at)
		}
	}
	return list
}

// knowledge is what anybody can know who hears all that is told: the anchors of the orders; the rides that were told, and those that they lead to; the values of both.
type knowledge struct {
	anchors firsts[api.Hash]
	rides   firsts[ride]
	values  firsts[api.Hash]
}

// learn is what is known by a trace.
func learn(trace []api.Event) knowledge {
	k := knowledge{firsts[api.Hash]{}, firsts[ride]{}, firsts[api.Hash]{}}
	for at, body := range told(trace) {
		if x, err := terms.DecodeOrder(body); err == api.OK {
			k.anchors.tell(x.Anchor, at)
			k.values.tell(x.Anchor, at)
		} else if x, err := terms.DecodeTicket(body); err == api.OK {
			k.lead(ride{x.Cert.Anchor, x.Index, x.Value}, at)
		}
	}
	return k
}

// lead learns a ride and all that it leads to on the way to its anchor. One that is known has led there already: so a carnet's rides cost no more steps than it has rides.
func (k knowledge) lead(x ride, at int) {
	for x.index >= 0 && k.rides.tell(x, at) {
		k.values.tell(x.value, at)
		x.index--
		x.value = chain.Step(x.value)
	}
}

package fleet

import (
	"bytes"

	"farebox/api"
	"farebox/gossip"
	"farebox/issuer"
)

// nobody is whom injected bytes come from.
const nobody = -1

// Do does one operation.
func (f *Fleet) Do(o api.Op) api.Reply {
	f = f.made()
	switch o.Kind {
	case api.OpBuy:
		return f.buy(o)
	case api.OpRide:
		return f.ride(o)
	case api.OpGossip:
		return f.tellAll(o)
	case api.OpSync:
		return f.tellLacking(o)
	case api.OpFreeze:
		return f.atIssuer(o, (*issuer.Issuer).Freeze, nothing)
	case api.OpPay:
		return f.atIssuer(o, (*issuer.Issuer).Pay, paid(o.Count))
	case api.OpRevoke:
		return f.atIssuer(o, (*issuer.Issuer).Revoke, nothing)
	case api.OpFloor:
		return f.atIssuer(o, (*issuer.Issuer).Raise, nothing)
	case api.OpDeliver:
		return f.deliver(o)
	case api.OpDrop:
		return f.drop(o)
	case api.OpDouble:
		return f.double(o)
	case api.OpInject:
		return f.inject(o)
	case api.OpCrash:
		return f.crash(o)
	case api.OpRestart:
		return f.restart(o)
	}
	return f.ask(o)
}

func (f *Fleet) buy(o api.Op) api.Reply {
	w, err := f.wallet(o.Node)
	if err != api.OK {
		return refused(err)
	}
	return f.settle(f.walletNumber(o.Node), w.Buy(o.Count, o.Price), nothing)
}

func (f *Fleet) ride(o api.Op) api.Reply {
	w, err := f.wallet(o.Node)
	if err != api.OK {
		return refused(err)
	}
	number := f.walletNumber(o.Node)
	return f.settle(number, w.Ride(o.Count, o.Other), revealed(number))
}

func (f *Fleet) tellAll(o api.Op) api.Reply {
	g, err := f.gate(o.Node)
	if err != api.OK {
		return refused(err)
	}
	return f.settle(o.Node, g.Send(o.Other), nothing)
}

func (f *Fleet) tellLacking(o api.Op) api.Reply {
	g, err := f.gate(o.Node)
	other, otherErr := f.gate(o.Other)
	switch {
	case err == api.ErrNode || otherErr == api.ErrNode:
		return refused(api.ErrNode)
	case err != api.OK || otherErr != api.OK:
		return refused(api.ErrDown)
	}
	return f.settle(o.Node, g.SendLacking(o.Other, gossip.Digest(other.State())), nothing)
}

// atIssuer does one of the issuer's operations.
func (f *Fleet) atIssuer(o api.Op, do func(*issuer.Issuer, int) api.Answer, told done) api.Reply {
	i, err := f.issuer()
	if err != api.OK {
		return refused(err)
	}
	return f.settle(issuerNumber, do(i, o.Count), told)
}

func (f *Fleet) deliver(o api.Op) api.Reply {
	m, there := f.bag.Get(o.Count)
	switch {
	case !there:
		return refused(api.ErrNoMsg)
	case !f.isUp(m.To):
		return refused(api.ErrDown)
	}
	f.bag.Take(o.Count) // first: what comes of it may need the room
	return f.hand(m.To, m.From, m.Body)
}

func (f *Fleet) drop(o api.Op) api.Reply {
	_, err := f.bag.Take(o.Count)
	return api.Reply{Err: err}
}

func (f *Fleet) double(o api.Op) api.Reply {
	id, err := f.bag.Double(o.Count)
	if err != api.OK {
		return refused(err)
	}
	return numbers(id)
}

func (f *Fleet) inject(o api.Op) api.Reply {
	switch {
	case !f.has(o.Node):
		return refused(api.ErrNode)
	case !f.isUp(o.Node):
		return refused(api.ErrDown)
	}
	f.tell(api.Event{Kind: api.EventInject, Node: o.Node, Body: bytes.Clone(o.Body)})
	return f.hand(o.Node, nobody, o.Body)
}

func (f *Fleet) crash(o api.Op) api.Reply {
	if !f.has(o.Node) {
		return refused(api.ErrNode)
	}
	return api.Reply{Err: f.spots[o.Node].flash.Arm(o.Count, o.Other)}
}

func (f *Fleet) restart(o api.Op) api.Reply {
	if !f.has(o.Node) {
		return refused(api.ErrNode)
	}
	f.spots[o.Node].flash.Restart() // one that is up refuses: nothing is to be done then
	if err := f.open(o.Node); err != api.OK {
		return f.goDown(o.Node, err)
	}
	f.tell(api.Event{Kind: api.EventRestart, Node: o.Node})
	return api.Reply{}
}

// hand hands a body to a node that is up.
func (f *Fleet) hand(number, from int, body []byte) api.Reply {
	told := f.watch(number, body)
	return f.settle(number, f.running(number).take(from, body), told)
}

// settle makes of a node's answer the reply: what the node has done is told, and what it lets out goes on its way.
func (f *Fleet) settle(number int, a api.Answer, told done) api.Reply {
	switch a.Err {
	case api.OK:
	case api.ErrDown:
		return f.goDown(number, a.Err)
	default:
		return refused(a.Err)
	}
	f.tell(told(a)...)
	reply := api.Reply{Nums: a.Nums}
	for _, m := range a.Out {
		reply.Nums = append(reply.Nums, int64(f.send(number, m)))
	}
	return reply
}

// send lets a message of a node out; its number in the bag, or 0, if it is lost or for no node that there is.
func (f *Fleet) send(number int, m api.Message) int {
	f.tell(api.Event{Kind: api.EventOut, Node: number, Body: m.Body})
	if !f.has(m.To) {
		return 0
	}
	id, _ := f.bag.Put(api.Message{From: number, To: m.To, Body: m.Body})
	return id
}

// goDown loses a node's memory, for that reason.
func (f *Fleet) goDown(number int, err api.Errno) api.Reply {
	f.spots[number].running = nil
	f.tell(api.Event{Kind: api.EventDown, Node: number})
	return refused(err)
}

// tell tells events.
func (f *Fleet) tell(events ...api.Event) { f.trace = append(f.trace, events...) }

func refused(err api.Errno) api.Reply { return api.Reply{Err: err} }

// numbers is a reply that tells these.
func numbers(list ...int) api.Reply {
	var r api.Reply
	for _, n := range list {
		r.Nums = append(r.Nums, int64(n))
	}
	return r
}

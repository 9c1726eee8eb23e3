package fleet_test

import (
	"slices"

	"farebox/api"
	"farebox/flash"
	"farebox/gossip"
	"farebox/terms"
)

// model is a plain fleet: nodes and messages in lists; what a node has done is found by holding what it kept against what it keeps.
type model struct {
	c       api.Config
	flashes []*flash.Flash
	nodes   []*alone // nil: it is down
	last    int
	bag     []api.Message
	trace   []api.Event
}

func newModel(c api.Config) *model {
	m := &model{c: c, nodes: make([]*alone, nodesOf(c))}
	for number := range m.nodes {
		m.flashes = append(m.flashes, flash.New(c.Flash))
		m.open(number)
	}
	return m
}

func (m *model) open(number int) api.Errno {
	x, err := tryAlone(m.c, number, m.flashes[number])
	m.nodes[number] = nil
	if err == api.OK {
		m.nodes[number] = &x
	}
	return err
}

// needs are the nodes that an operation asks.
func (m *model) needs(o api.Op) []int {
	switch askedBy[o.Kind] {
	case aWallet:
		return []int{m.c.Gates + o.Node}
	case aGate:
		if o.Kind == api.OpSync {
			return []int{o.Node, o.Other}
		}
		return []int{o.Node}
	case anyNode:
		return []int{o.Node}
	case theIssuer:
		return []int{0}
	}
	return nil
}

func failed(err api.Errno) api.Reply { return api.Reply{Err: err} }

func (m *model) do(o api.Op) api.Reply {
	if o.Kind < 1 || o.Kind > 21 {
		return failed(api.ErrKind)
	}
	if !there(m.c, o.Kind, o.Node) || o.Kind == api.OpSync && !there(m.c, o.Kind, o.Other) {
		return failed(api.ErrNode)
	}
	for _, number := range m.needs(o) {
		if m.nodes[number] == nil {
			return failed(api.ErrDown)
		}
	}
	switch o.Kind {
	case api.OpDeliver, api.OpDrop, api.OpDouble:
		return m.mail(o)
	case api.OpCrash:
		return failed(m.flashes[o.Node].Arm(o.Count, o.Other))
	case api.OpRestart:
		return m.restart(o.Node)
	case api.OpInject:
		m.trace = append(m.trace, api.Event{Kind: api.EventInject, Node: o.Node, Body: o.Body})
		return m.run(o.Node, o, api.Message{}, o.Body)
	case api.OpGossip, api.OpSync:
		return m.gossip(o)
	}
	if o.Kind >= api.OpHead {
		return m.query(o)
	}
	return m.run(m.needs(o)[0], o, api.Message{}, nil)
}

func (m *model) mail(o api.Op) api.Reply {
	at := slices.IndexFunc(m.bag, func(x api.Message) bool { return x.ID == o.Count })
	if at < 0 {
		return failed(api.ErrNoMsg)
	}
	x := m.bag[at]
	if o.Kind == api.OpDouble {
		id := m.put(x)
		if id == 0 {
			return failed(api.ErrBagged)
		}
		return api.Reply{Nums: []int64{id}}
	}
	if o.Kind == api.OpDeliver && m.nodes[x.To] == nil {
		return failed(api.ErrDown)
	}
	m.bag = slices.Delete(m.bag, at, at+1)
	if o.Kind == api.OpDrop {
		return api.Reply{}
	}
	return m.run(x.To, o, x, x.Body)
}

// put lays a message down; 0, if there is no room.
func (m *model) put(x api.Message) int64 {
	if len(m.bag) == 4096 {
		return 0
	}
	m.last++
	x.ID = m.last
	m.bag = append(m.bag, x)
	return int64(x.ID)
}

func (m *model) restart(number int) api.Reply {
	if m.flashes[number].Down() {
		m.flashes[number].Restart()
	}
	err := m.open(number)
	kind := api.EventRestart
	if err != api.OK {
		kind = api.EventDown
	}
	m.trace = append(m.trace, api.Event{Kind: kind, Node: number})
	return failed(err)
}

func (m *model) gossip(o api.Op) api.Reply {
	g := m.nodes[o.Node].gate
	if o.Kind == api.OpGossip {
		return m.answered(o.Node, g.Send(o.Other))
	}
	return m.answered(o.Node, g.SendLacking(o.Other, gossip.Digest(m.nodes[o.Other].gate.State())))
}

// run lets a node do an operation; body is what it is handed.
func (m *model) run(number int, o api.Op, x api.Message, body []byte) api.Reply {
	n := m.nodes[number]
	before := n.kept()
	a := n.does(o, x)
	if a.Err == api.OK {
		m.trace = append(m.trace, changes(number, before, n.kept())...)
		if domain, _ := terms.Domain(body); n.gate != nil && (domain == api.DomainFreeze || domain == api.DomainRevoke) {
			m.trace = append(m.trace, api.Event{Kind: api.EventRetire, Node: number, Serial: int(a.Nums[0])})
		} else if n.gate != nil && domain == api.DomainFloor {
			m.trace = append(m.trace, api.Event{Kind: api.EventRetire, Node: number, Index: n.kept().gate.Floor.Floor})
		}
	}
	return m.answered(number, a)
}

// answered is the reply to a node's answer.
func (m *model) answered(number int, a api.Answer) api.Reply {
	if a.Err == api.ErrDown {
		m.nodes[number] = nil
		m.trace = append(m.trace, api.Event{Kind: api.EventDown, Node: number})
	}
	if a.Err != api.OK {
		return failed(a.Err)
	}
	nums := a.Nums
	for _, x := range a.Out {
		m.trace = append(m.trace, api.Event{Kind: api.EventOut, Node: number, Body: x.Body})
		id := int64(0)
		if x.To >= 0 && x.To < len(m.nodes) {
			id = m.put(api.Message{From: number, To: x.To, Body: x.Body})
		}
		nums = append(nums, id)
	}
	return api.Reply{Nums: nums}
}

// changes are the events that the difference of two states tells.
func changes(number int, a, b kept) []api.Event {
	var list []api.Event
	for _, row := range b.gate.Rows {
		if slices.Contains(a.gate.Rows, row) {
			continue
		}
		if b.gate.Accepted > a.gate.Accepted {
			list = append(list, api.Event{Kind: api.EventAccept, Node: number, Serial: row.Cert.Serial, Index: row.Index})
		}
		list = append(list, api.Event{Kind: api.EventStore, Node: number, Serial: row.Cert.Serial, Index: row.Index})
	}
	for i, x := range b.issuer.Carnets {
		if i == len(a.issuer.Carnets) {
			list = append(list, api.Event{Kind: api.EventIssue, Serial: x.Cert.Serial, Index: x.Cert.Rides, Amount: x.Cert.Price})
		} else if x.Status == api.Paid && a.issuer.Carnets[i].Status != api.Paid {
			list = append(list, api.Event{Kind: api.EventPay, Serial: x.Cert.Serial, Index: x.Cert.Rides - x.Refund.Top, Amount: x.Paid})
		}
	}
	for i, p := range b.wallet.Purses {
		if i < len(a.wallet.Purses) && p.Revealed > a.wallet.Purses[i].Revealed {
			list = append(list, api.Event{Kind: api.EventReveal, Node: number, Serial: p.Cert.Serial, Index: p.Revealed})
		}
	}
	return list
}

func truth(x bool) int64 { return map[bool]int64{true: 1}[x] }

func (m *model) query(o api.Op) api.Reply {
	switch o.Kind {
	case api.OpHead:
		h := m.nodes[0].issuer.Head()
		m.trace = append(m.trace, api.Event{Kind: api.EventOut, Body: told(terms.EncodeHead, h)})
		return api.Reply{Nums: []int64{int64(len(m.nodes[0].kept().issuer.Leaves))}}
	case api.OpRow:
		for _, row := range m.nodes[o.Node].kept().gate.Rows {
			if row.Cert.Serial == o.Count {
				return api.Reply{Nums: []int64{int64(row.Index), truth(row.Frozen), truth(row.Revoked)}}
			}
		}
		return failed(api.ErrSerial)
	case api.OpCarnet:
		return m.carnet(o.Count)
	case api.OpPurse:
		for _, p := range m.nodes[m.c.Gates+o.Node].kept().wallet.Purses {
			if p.Cert.Serial == o.Count && o.Count != 0 {
				return api.Reply{Nums: []int64{int64(p.Rides), int64(p.Revealed), int64(p.Refund.Rides)}}
			}
		}
		return failed(api.ErrPurse)
	case api.OpMoney:
		net := m.nodes[0].kept().issuer.Book.Net
		return api.Reply{Nums: []int64{net[api.Cash], -net[api.Unearned], -net[api.Earned]}}
	case api.OpBag:
		return api.Reply{Nums: []int64{int64(len(m.bag)), int64(4096 - len(m.bag))}}
	}
	var nums []int64
	for _, x := range m.nodes {
		nums = append(nums, truth(x != nil))
	}
	return api.Reply{Nums: nums}
}

func (m *model) carnet(serial int) api.Reply {
	for _, x := range m.nodes[0].kept().issuer.Carnets {
		if x.Cert.Serial != serial {
			continue
		}
		acked := int64(0)
		for _, has := range x.Refund.Acked {
			acked += truth(has)
		}
		return api.Reply{Nums: []int64{int64(x.Status), int64(x.Cert.Rides), x.Cert.Price, int64(x.Refund.Top), acked, x.Paid}}
	}
	return failed(api.ErrSerial)
}

// look is all that the model tells of itself.
func (m *model) look() look {
	x := look{bag: m.bag}
	for number, n := range m.nodes {
		x.up = append(x.up, n != nil)
		k := kept{}
		if n != nil {
			k = n.kept()
		}
		x.kept = append(x.kept, k)
		x.files = append(x.files, filesOf(m.flashes[number]))
	}
	return x
}

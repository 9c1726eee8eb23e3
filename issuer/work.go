package issuer

import (
	"slices"

	"farebox/api"
	"farebox/merkle"
	"farebox/ring"
	"farebox/terms"
)

// nobody is whom a certificate goes to that no wallet has asked for.
const nobody = -1

// work is the state at work: what is kept, and what the operations need beside it.
type work struct {
	gates   int
	wallets int
	serials int
	seed    api.Hash
	keys    api.Ring // the gates' keys alone: what an issuer takes is signed by nobody else
	state   api.IssuerState
}

// outcome is what an operation comes to: its answer, and where something changes the record and the change.
type outcome struct {
	answer api.Answer
	record []byte
	change change
}

// change is what becomes of the state: the floor and the book, the carnets that join or become others, each at the place of its serial, and what is logged.
type change struct {
	floor   api.Floor
	book    api.Book
	carnets []api.Carnet
	leaves  []api.Hash
}

func newWork(c api.Config, r api.Ring) *work {
	seed, _ := ring.Seed(c, 0)
	return &work{gates: c.Gates, wallets: c.Wallets, serials: c.Serials, seed: seed, keys: api.Ring{Gates: slices.Clone(r.Gates)}}
}

// asks is what the messages that an issuer takes ask for, by their domains.
func (w *work) asks() map[int]func(from int, body []byte) outcome {
	return map[int]func(from int, body []byte) outcome{
		api.DomainOrder: w.takeOrder,
		api.DomainAck:   w.takeAck,
	}
}

func (w *work) take(from int, body []byte) outcome {
	domain, err := terms.Domain(body)
	if err != api.OK {
		return refused(err)
	}
	do, there := w.asks()[domain]
	if !there {
		return refused(api.ErrDomain)
	}
	return do(from, body)
}

func (w *work) takeOrder(from int, body []byte) outcome {
	x, err := terms.DecodeOrder(body)
	if err != api.OK {
		return refused(err)
	}
	return w.order(from, x)
}

// takeAck does not ask who brings it: an acknowledgement is good by its signature alone.
func (w *work) takeAck(_ int, body []byte) outcome {
	x, err := terms.DecodeAck(body)
	if err != api.OK {
		return refused(err)
	}
	return w.ack(x)
}

// apply makes a change the state's.
func (w *work) apply(c change) {
	s := &w.state
	s.Floor, s.Book = c.floor, c.book
	for _, x := range c.carnets {
		if x.Cert.Serial > len(s.Carnets) {
			s.Carnets = append(s.Carnets, x)
		} else {
			s.Carnets[x.Cert.Serial-1] = x
		}
	}
	s.Leaves = append(s.Leaves, c.leaves...)
}

// carnet is the one of a serial; false, if none of that number was issued.
func (w *work) carnet(serial int) (api.Carnet, bool) {
	if serial < 1 || serial > len(w.state.Carnets) {
		return api.Carnet{}, false
	}
	return w.state.Carnets[serial-1], true
}

// owner is a node, if that is a wallet's, else 0.
func (w *work) owner(node int) int {
	if node > w.gates && node <= w.gates+w.wallets {
		return node
	}
	return 0
}

func (w *work) logIsFull() bool { return len(w.state.Leaves) >= api.MaxLeaves }

// becomes is a change in which the floor and the book stay, and a carnet becomes this one.
func (w *work) becomes(c api.Carnet) change {
	return change{floor: w.state.Floor, book: w.state.Book, carnets: []api.Carnet{c}}
}

// becomesLogged is one that moves money too, and logs a message.
func (w *work) becomesLogged(c api.Carnet, book api.Book, told []byte) change {
	x := w.becomes(c)
	x.book, x.leaves = book, []api.Hash{merkle.Leaf(told)}
	return x
}

// toGates is an answer with one number, and a message that goes to all gates.
func (w *work) toGates(n int, told []byte) api.Answer {
	a := numbers(n)
	for gate := 1; gate <= w.gates; gate++ {
		a.Out = append(a.Out, message(gate, slices.Clone(told)))
	}
	return a
}

func (o outcome) changes() bool { return o.answer.Err == api.OK && o.record != nil }

func refused(err api.Errno) outcome { return outcome{answer: refusal(err)} }

func noChange(a api.Answer) outcome { return outcome{answer: a} }

func refusal(err api.Errno) api.Answer { return api.Answer{Err: err} }

// numbers is an answer that tells these.
func numbers(list ...int) api.Answer {
	var nums []int64
	for _, n := range list {
		nums = append(nums, int64(n))
	}
	return api.Answer{Nums: nums}
}

func message(to int, body []byte) api.Message { return api.Message{To: to, Body: body} }

package fleet

import (
	"slices"

	"farebox/api"
	"farebox/ledger"
	"farebox/refund"
	"farebox/table"
	"farebox/terms"
)

// ask answers a query. It changes nothing.
func (f *Fleet) ask(o api.Op) api.Reply {
	switch o.Kind {
	case api.OpHead:
		return f.head()
	case api.OpRow:
		return f.row(o)
	case api.OpCarnet:
		return f.carnet(o)
	case api.OpPurse:
		return f.purse(o)
	case api.OpMoney:
		return f.money()
	case api.OpBag:
		return numbers(f.bag.Len(), f.bag.Room())
	case api.OpState:
		return f.state()
	}
	return refused(api.ErrKind)
}

// head is the one query that is told: whoever sees a signed head may keep it.
func (f *Fleet) head() api.Reply {
	i, err := f.issuer()
	if err != api.OK {
		return refused(err)
	}
	h := i.Head()
	body, _ := terms.EncodeHead(h) // a log has no more leaves than a head can tell
	f.tell(api.Event{Kind: api.EventOut, Node: issuerNumber, Body: body})
	return numbers(h.Size)
}

func (f *Fleet) row(o api.Op) api.Reply {
	g, err := f.gate(o.Node)
	if err != api.OK {
		return refused(err)
	}
	row, there := table.Find(g.State(), o.Count)
	if !there {
		return refused(api.ErrSerial)
	}
	return numbers(row.Index, flag(row.Frozen), flag(row.Revoked))
}

func (f *Fleet) carnet(o api.Op) api.Reply {
	i, err := f.issuer()
	if err != api.OK {
		return refused(err)
	}
	carnets := i.State().Carnets
	if o.Count < 1 || o.Count > len(carnets) {
		return refused(api.ErrSerial)
	}
	c := carnets[o.Count-1]
	acked := len(c.Refund.Acked) - len(refund.Missing(c.Refund))
	return api.Reply{Nums: []int64{int64(c.Status), int64(c.Cert.Rides), c.Cert.Price, int64(c.Refund.Top), int64(acked), c.Paid}}
}

func (f *Fleet) purse(o api.Op) api.Reply {
	w, err := f.wallet(o.Node)
	if err != api.OK {
		return refused(err)
	}
	purses := w.State().Purses
	at := slices.IndexFunc(purses, func(p api.Purse) bool { return p.Cert.Serial == o.Count })
	if at < 0 || o.Count == 0 { // 0 is the mark of a certificate that has not come
		return refused(api.ErrPurse)
	}
	p := purses[at]
	return numbers(p.Rides, p.Revealed, p.Refund.Rides)
}

func (f *Fleet) money() api.Reply {
	i, err := f.issuer()
	if err != api.OK {
		return refused(err)
	}
	book := i.State().Book
	var r api.Reply
	for account := range api.Accounts {
		balance, _ := ledger.Balance(book, account)
		r.Nums = append(r.Nums, balance)
	}
	return r
}

func (f *Fleet) state() api.Reply {
	var r api.Reply
	for number := range f.spots {
		r.Nums = append(r.Nums, int64(flag(f.isUp(number))))
	}
	return r
}

// flag is how a reply tells whether something is so.
func flag(x bool) int {
	if x {
		return 1
	}
	return 0
}

package issuer

import (
	"slices"

	"farebox/api"
	"farebox/chain"
	"farebox/ledger"
	"farebox/merkle"
	"farebox/refund"
	"farebox/ring"
	"farebox/terms"
)

func (w *work) order(from int, x api.Order) outcome {
	if cert, there := w.certified(x.Anchor); there {
		if cert.Rides != x.Rides || cert.Price != x.Price {
			return refused(api.ErrAnchor)
		}
		return noChange(w.sendCert(from, cert))
	}
	serial := len(w.state.Carnets) + 1
	book, err := ledger.Sell(w.state.Book, x.Rides, x.Price)
	switch {
	case serial > w.serials:
		return refused(api.ErrSerial)
	case serial < w.state.Floor.Floor:
		return refused(api.ErrFloor)
	case err != api.OK:
		return refused(err)
	case w.logIsFull():
		return refused(api.ErrRange)
	}
	cert := ring.SealCert(w.seed, api.Cert{Serial: serial, Rides: x.Rides, Price: x.Price, Anchor: x.Anchor})
	c := api.Carnet{Owner: w.owner(from), Cert: cert, Status: api.Issued}
	return outcome{w.sendCert(from, cert), orderRecord(c.Owner, x), w.becomesLogged(c, book, certTold(cert))}
}

// certified is the first certificate with that anchor.
func (w *work) certified(anchor api.Hash) (api.Cert, bool) {
	for i := range w.state.Carnets {
		if w.state.Carnets[i].Cert.Anchor == anchor {
			return w.state.Carnets[i].Cert, true
		}
	}
	return api.Cert{}, false
}

// sendCert answers an order with its certificate.
func (w *work) sendCert(from int, cert api.Cert) api.Answer {
	to := nobody
	if w.owner(from) != 0 {
		to = from
	}
	a := numbers(cert.Serial)
	a.Out = []api.Message{message(to, certTold(cert))}
	return a
}

func (w *work) ack(x api.Ack) outcome {
	c, there := w.carnet(x.Serial)
	switch {
	case !there:
		return refused(api.ErrSerial)
	case !ring.CheckAck(w.keys, x):
		return refused(api.ErrSign)
	case c.Status != api.Freezing:
		return refused(api.ErrStatus)
	case x.Index > c.Cert.Rides:
		return refused(api.ErrAcked)
	case !chain.Check(c.Cert.Anchor, c.Cert.Rides, x.Index, x.Value):
		return refused(api.ErrChain)
	}
	old := c.Refund
	after, err := refund.Ack(old, x.Gate, x.Index)
	if err != api.OK {
		return refused(err)
	}
	answer := numbers(x.Serial, after.Top, len(refund.Missing(after)))
	if after.Top == old.Top && slices.Equal(after.Acked, old.Acked) {
		return noChange(answer)
	}
	c.Refund = after
	return outcome{answer, ackRecord(x), w.becomes(c)}
}

func (w *work) freeze(serial int) outcome {
	c, there := w.carnet(serial)
	switch {
	case !there:
		return refused(api.ErrSerial)
	case serial < w.state.Floor.Floor:
		return refused(api.ErrFloor)
	case c.Status == api.Paid || c.Status == api.Revoked:
		return refused(api.ErrStatus)
	}
	told, _ := terms.EncodeFreeze(ring.SealFreeze(w.seed, api.Freeze{Cert: c.Cert}))
	answer := w.toGates(serial, told)
	if c.Status == api.Freezing {
		return noChange(answer)
	}
	c.Status = api.Freezing
	c.Refund, _ = refund.Begin(serial, c.Cert.Rides, w.gates) // a carnet's numbers, and a configuration's, are such as it takes
	return outcome{answer, numberRecord(freezeKind, serial), w.becomes(c)}
}

func (w *work) pay(serial int) outcome {
	c, there := w.carnet(serial)
	switch {
	case !there:
		return refused(api.ErrSerial)
	case c.Status != api.Freezing:
		return refused(api.ErrStatus)
	}
	back, err := refund.Rides(c.Refund)
	if err != api.OK {
		return refused(err)
	}
	book, err := ledger.Refund(w.state.Book, c.Cert.Rides, back, c.Cert.Price)
	switch {
	case err != api.OK:
		return refused(err)
	case w.logIsFull():
		return refused(api.ErrRange)
	}
	c.Status, c.Paid = api.Paid, int64(back)*c.Cert.Price
	told, _ := terms.EncodeReceipt(ring.SealReceipt(w.seed, api.Receipt{Serial: serial, Rides: back, Amount: c.Paid}))
	answer := api.Answer{Nums: []int64{int64(back), c.Paid}}
	if c.Owner != 0 {
		answer.Out = []api.Message{message(c.Owner, told)}
	}
	return outcome{answer, numberRecord(payKind, serial), w.becomesLogged(c, book, told)}
}

func (w *work) revoke(serial int) outcome {
	c, there := w.carnet(serial)
	switch {
	case !there:
		return refused(api.ErrSerial)
	case c.Status == api.Paid:
		return refused(api.ErrStatus)
	}
	told, _ := terms.EncodeRevocation(ring.SealRevocation(w.seed, api.Revocation{Cert: c.Cert}))
	answer := w.toGates(serial, told)
	if c.Status == api.Revoked {
		return noChange(answer)
	}
	book, err := ledger.Retire(w.state.Book, c.Cert.Rides, c.Cert.Price)
	switch {
	case err != api.OK:
		return refused(err)
	case w.logIsFull():
		return refused(api.ErrRange)
	}
	c.Status = api.Revoked
	return outcome{answer, numberRecord(revokeKind, serial), w.becomesLogged(c, book, told)}
}

func (w *work) raise(floor int) outcome {
	switch {
	case floor < 1 || floor > w.serials+1:
		return refused(api.ErrArg)
	case floor < w.state.Floor.Floor:
		return refused(api.ErrFloor)
	case floor == w.state.Floor.Floor:
		return noChange(w.toGates(floor, floorTold(w.state.Floor)))
	}
	retired, book, err := w.retireBelow(floor)
	switch {
	case err != api.OK:
		return refused(err)
	case w.logIsFull():
		return refused(api.ErrRange)
	}
	sealed := ring.SealFloor(w.seed, api.Floor{Floor: floor})
	told := floorTold(sealed)
	return outcome{w.toGates(floor, told), numberRecord(raiseKind, floor), change{sealed, book, retired, []api.Hash{merkle.Leaf(told)}}}
}

// retireBelow is the Issued carnets below a floor, as they are behind it, and the book then.
func (w *work) retireBelow(floor int) ([]api.Carnet, api.Book, api.Errno) {
	var retired []api.Carnet
	book := w.state.Book
	for k := range min(floor-1, len(w.state.Carnets)) {
		if w.state.Carnets[k].Status != api.Issued {
			continue
		}
		c := w.state.Carnets[k]
		var err api.Errno
		if book, err = ledger.Retire(book, c.Cert.Rides, c.Cert.Price); err != api.OK {
			return nil, book, err
		}
		c.Status = api.Revoked
		retired = append(retired, c)
	}
	return retired, book, api.OK
}

func certTold(x api.Cert) []byte {
	told, _ := terms.EncodeCert(x) // a carnet's is in range, or a snapshot that tells it could not be read
	return told
}

func floorTold(x api.Floor) []byte {
	told, _ := terms.EncodeFloor(x)
	return told
}

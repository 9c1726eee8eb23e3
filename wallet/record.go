package wallet

import (
	"farebox/api"
	"farebox/terms"
	"farebox/wire"
)

// The kinds of records.
const (
	orderKind   = 1
	certKind    = 2
	rideKind    = 3
	receiptKind = 4
)

func orderRecord(rides int, price int64) []byte {
	return record(orderKind, func(w *wire.Writer) {
		w.U32(uint32(rides))
		w.U64(uint64(price))
	})
}

func certRecord(k int, cert api.Cert) []byte {
	told, _ := terms.EncodeCert(cert)
	return record(certKind, func(w *wire.Writer) {
		w.U32(uint32(k))
		w.Fixed(told)
	})
}

func rideRecord(serial int) []byte {
	return record(rideKind, func(w *wire.Writer) { w.U32(uint32(serial)) })
}

func receiptRecord(receipt api.Receipt) []byte {
	told, _ := terms.EncodeReceipt(receipt)
	return record(receiptKind, func(w *wire.Writer) { w.Fixed(told) })
}

// record is a kind of record, and what is put behind that.
func record(kind byte, put func(*wire.Writer)) []byte {
	w := wire.NewWriter()
	w.Byte(kind)
	put(w)
	told, _ := w.Done() // nothing that is put has a fault: no list of any length is among it
	return told
}

// play is the purses behind a record; false, if it cannot be read. The ones that are handed in are used up: they are changed where they lie.
func play(purses []api.Purse, record []byte) ([]api.Purse, bool) {
	r := wire.NewReader(record)
	switch r.Byte() {
	case orderKind:
		return playOrder(purses, r)
	case certKind:
		return playCert(purses, r)
	case rideKind:
		return playRide(purses, r)
	case receiptKind:
		return playReceipt(purses, r)
	}
	return nil, false
}

func playOrder(purses []api.Purse, r *wire.Reader) ([]api.Purse, bool) {
	rides, price := int(r.U32()), int64(r.U64())
	if r.Done() != api.OK || !mayOrder(rides, price) {
		return nil, false
	}
	return append(purses, api.Purse{Chain: len(purses) + 1, Rides: rides, Price: price}), true
}

func playCert(purses []api.Purse, r *wire.Reader) ([]api.Purse, bool) {
	k := uint64(r.U32())
	cert, err := terms.DecodeCert(rest(r))
	if err != api.OK || k < 1 || k > uint64(len(purses)) {
		return nil, false
	}
	p := &purses[k-1]
	if _, taken := withSerial(purses, cert.Serial); taken || hasCert(*p) || !agree(*p, cert) {
		return nil, false
	}
	p.Cert = cert
	return purses, true
}

func playRide(purses []api.Purse, r *wire.Reader) ([]api.Purse, bool) {
	at, there := withSerial(purses, int(r.U32()))
	if r.Done() != api.OK || !there || !canRide(purses[at]) {
		return nil, false
	}
	purses[at].Revealed++
	return purses, true
}

func playReceipt(purses []api.Purse, r *wire.Reader) ([]api.Purse, bool) {
	receipt, err := terms.DecodeReceipt(rest(r))
	at, there := withSerial(purses, receipt.Serial)
	if err != api.OK || !there || hasReceipt(purses[at]) {
		return nil, false
	}
	purses[at].Refund = receipt
	return purses, true
}

// rest is all that is left of a record: a message, which knows its own length. Behind a fault it is no bytes, which are no message.
func rest(r *wire.Reader) []byte { return r.Fixed(r.Left()) }

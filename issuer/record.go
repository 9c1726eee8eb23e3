package issuer

import (
	"math"

	"farebox/api"
	"farebox/terms"
	"farebox/wire"
)

// The kinds of records.
const (
	orderKind  = 1
	ackKind    = 2
	freezeKind = 3
	payKind    = 4
	revokeKind = 5
	raiseKind  = 6
)

func orderRecord(owner int, x api.Order) []byte {
	told, _ := terms.EncodeOrder(x)
	return record(orderKind, func(w *wire.Writer) {
		w.Uint(uint64(owner))
		w.Fixed(told)
	})
}

func ackRecord(x api.Ack) []byte {
	told, _ := terms.EncodeAck(x)
	return record(ackKind, func(w *wire.Writer) { w.Fixed(told) })
}

// numberRecord is the record of an operation that a serial or a floor is all of.
func numberRecord(kind byte, n int) []byte {
	return record(kind, func(w *wire.Writer) { w.Uint(uint64(n)) })
}

// record is a kind of record, and what is put behind that.
func record(kind byte, put func(*wire.Writer)) []byte {
	w := wire.NewWriter()
	w.Byte(kind)
	put(w)
	told, _ := w.Done() // nothing that is put has a fault: no list of any length is among it
	return told
}

// replay makes the state the one that a snapshot and the records behind it come to; false, if one of them cannot be read or played.
func (w *work) replay(found api.Recovered) bool {
	s, ok := readSnapshot(found.Snapshot)
	if !ok {
		return false
	}
	w.state = s
	for _, record := range found.Records {
		if !w.play(record) {
			return false
		}
	}
	return true
}

// play does again what a record tells of; false, if it cannot be read, is refused or changes nothing: no Issuer has laid it down there.
func (w *work) play(record []byte) bool {
	o := w.again(record)
	if !o.changes() {
		return false
	}
	w.apply(o.change)
	return true
}

// again is what the operation of a record comes to; one that cannot be read is refused.
func (w *work) again(record []byte) outcome {
	r := wire.NewReader(record)
	kind := r.Byte()
	switch kind {
	case orderKind:
		owner := number(r)
		return w.takeOrder(owner, rest(r))
	case ackKind:
		return w.takeAck(nobody, rest(r))
	}
	n := number(r)
	if r.Done() != api.OK {
		return refused(api.ErrDamage)
	}
	switch kind {
	case freezeKind:
		return w.freeze(n)
	case payKind:
		return w.pay(n)
	case revokeKind:
		return w.revoke(n)
	case raiseKind:
		return w.raise(n)
	}
	return refused(api.ErrDamage)
}

// number is the next one of a record. One above every int becomes the greatest, which is no wallet's node, no serial and no floor either.
func number(r *wire.Reader) int { return int(min(r.Uint(), math.MaxInt)) }

// rest is all that is left of a record: a message, which knows its own length. Behind a fault it is no bytes, which are no message.
func rest(r *wire.Reader) []byte { return r.Fixed(r.Left()) }

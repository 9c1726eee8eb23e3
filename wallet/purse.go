package wallet

import (
	"slices"

	"farebox/api"
	"farebox/terms"
	"farebox/wire"
)

// maxPurses is how many purses a snapshot tells at most. No flash holds the records of so many.
const maxPurses = 65535

func mayOrder(rides int, price int64) bool {
	return rides >= 1 && rides <= api.MaxRides && price >= 0 && price <= api.MaxPrice
}

func hasCert(p api.Purse) bool { return p.Cert.Serial != 0 }

func hasReceipt(p api.Purse) bool { return p.Refund.Serial != 0 }

// canRide tells whether a ride is left that may be revealed.
func canRide(p api.Purse) bool { return p.Revealed < p.Rides && !hasReceipt(p) }

// agree tells whether a certificate has the numbers that were ordered.
func agree(p api.Purse, cert api.Cert) bool { return p.Rides == cert.Rides && p.Price == cert.Price }

// mayBe tells whether the parts of a purse go together as the calls leave them.
func mayBe(p api.Purse) bool {
	switch {
	case !mayOrder(p.Rides, p.Price) || p.Revealed > p.Rides:
		return false
	case !hasCert(p):
		return p.Revealed == 0 && !hasReceipt(p)
	}
	return agree(p, p.Cert) && (!hasReceipt(p) || p.Refund.Serial == p.Cert.Serial)
}

// withSerial is the place of the first purse whose certificate has that serial. None has 0: that is the mark of a certificate that has not come.
func withSerial(purses []api.Purse, serial int) (int, bool) {
	if serial == 0 {
		return 0, false
	}
	at := slices.IndexFunc(purses, func(p api.Purse) bool { return p.Cert.Serial == serial })
	return at, at >= 0
}

// message is one that may be missing.
type message struct {
	there bool
	told  []byte
}

// written is a purse as a snapshot tells it, which may be none that can be.
type written struct {
	rides    uint32
	price    uint64
	cert     message
	revealed uint32
	receipt  message
}

// snapshot is the purses in bytes.
func snapshot(purses []api.Purse) []byte {
	w := wire.NewWriter()
	wire.PutList(w, purses, maxPurses, putPurse)
	told, _ := w.Done() // there is no fault: neither so many purses nor messages so long can be
	return told
}

func putPurse(w *wire.Writer, p api.Purse) {
	w.U32(uint32(p.Rides))
	w.U64(uint64(p.Price))
	putMessage(w, hasCert(p), p.Cert, terms.EncodeCert)
	w.U32(uint32(p.Revealed))
	putMessage(w, hasReceipt(p), p.Refund, terms.EncodeReceipt)
}

func putMessage[T any](w *wire.Writer, there bool, x T, encode func(T) ([]byte, api.Errno)) {
	w.Bool(there)
	if there {
		told, _ := encode(x)
		w.Bytes(told, api.MaxMessage)
	}
}

// readSnapshot is the purses that these bytes tell; false, if they cannot be read.
func readSnapshot(b []byte) ([]api.Purse, bool) {
	r := wire.NewReader(b)
	list := wire.GetList(r, maxPurses, getPurse)
	if r.Done() != api.OK {
		return nil, false
	}
	var purses []api.Purse
	for _, x := range list {
		p, ok := x.read(len(purses) + 1)
		if _, taken := withSerial(purses, p.Cert.Serial); taken || !ok {
			return nil, false
		}
		purses = append(purses, p)
	}
	return purses, true
}

func getPurse(r *wire.Reader) written {
	return written{
		rides:    r.U32(),
		price:    r.U64(),
		cert:     getMessage(r),
		revealed: r.U32(),
		receipt:  getMessage(r),
	}
}

func getMessage(r *wire.Reader) message {
	if !r.Bool() {
		return message{}
	}
	return message{there: true, told: r.Bytes(api.MaxMessage)}
}

// read is purse k as it is written; false, if none may be so. Numbers too great for an int become ones below 0, which may not be.
func (x written) read(k int) (api.Purse, bool) {
	cert, certOK := readMessage(x.cert, terms.DecodeCert)
	receipt, receiptOK := readMessage(x.receipt, terms.DecodeReceipt)
	p := api.Purse{Chain: k, Rides: int(x.rides), Price: int64(x.price), Cert: cert, Revealed: int(x.revealed), Refund: receipt}
	return p, certOK && receiptOK && mayBe(p)
}

// readMessage is the term of a message; that of zeros, if it is missing.
func readMessage[T any](m message, decode func([]byte) (T, api.Errno)) (T, bool) {
	if !m.there {
		var none T
		return none, true
	}
	x, err := decode(m.told)
	return x, err == api.OK
}

package issuer

import (
	"math"

	"farebox/api"
	"farebox/wire"
)

// written is a carnet as a snapshot tells it, which may be none that can be.
type written struct {
	owner  uint64
	rides  uint64
	price  uint64
	anchor api.Hash
	sig    api.Sig
	status byte
	paid   uint64
	acked  []bool
	top    uint64
}

// snapshot is a state in bytes.
func snapshot(s api.IssuerState) []byte {
	w := wire.NewWriter()
	w.Uint(uint64(s.Floor.Floor))
	w.Fixed(s.Floor.Sig[:])
	for _, net := range s.Book.Net {
		w.U64(uint64(net))
	}
	wire.PutList(w, s.Carnets, api.MaxSerial, putCarnet)
	wire.PutList(w, s.Leaves, api.MaxLeaves, func(w *wire.Writer, leaf api.Hash) { w.Fixed(leaf[:]) })
	told, _ := w.Done() // there is no fault: neither more carnets nor more leaves than that ever join
	return told
}

func putCarnet(w *wire.Writer, c api.Carnet) {
	w.Uint(uint64(c.Owner))
	w.Uint(uint64(c.Cert.Rides))
	w.Uint(uint64(c.Cert.Price))
	w.Fixed(c.Cert.Anchor[:])
	w.Fixed(c.Cert.Sig[:])
	w.Byte(byte(c.Status))
	w.Uint(uint64(c.Paid))
	wire.PutList(w, c.Refund.Acked, api.MaxGates, (*wire.Writer).Bool)
	w.Uint(uint64(c.Refund.Top))
}

// readSnapshot is the state that these bytes tell; false, if they cannot be read.
func readSnapshot(b []byte) (api.IssuerState, bool) {
	var s api.IssuerState
	r := wire.NewReader(b)
	floor := r.Uint()
	readInto(r, s.Floor.Sig[:])
	for account := range s.Book.Net {
		s.Book.Net[account] = int64(r.U64())
	}
	list := wire.GetList(r, api.MaxSerial, getCarnet)
	s.Leaves = wire.GetList(r, api.MaxLeaves, func(r *wire.Reader) (leaf api.Hash) {
		readInto(r, leaf[:])
		return leaf
	})
	if r.Done() != api.OK || floor > api.MaxSerial+1 {
		return api.IssuerState{}, false
	}
	s.Floor.Floor = int(floor)
	for _, x := range list {
		if !x.fits() {
			return api.IssuerState{}, false
		}
		s.Carnets = append(s.Carnets, x.carnet(len(s.Carnets)+1))
	}
	return s, true
}

func getCarnet(r *wire.Reader) (x written) {
	x.owner, x.rides, x.price = r.Uint(), r.Uint(), r.Uint()
	readInto(r, x.anchor[:])
	readInto(r, x.sig[:])
	x.status, x.paid = r.Byte(), r.Uint()
	x.acked = wire.GetList(r, api.MaxGates, (*wire.Reader).Bool)
	x.top = r.Uint()
	return x
}

// readInto fills a piece with the next bytes; behind a fault it leaves it as it is.
func readInto(r *wire.Reader, piece []byte) { copy(piece, r.Fixed(len(piece))) }

// fits tells whether all numbers are in their ranges. That they go together is not asked.
func (x written) fits() bool {
	return x.owner <= api.MaxGates+api.MaxWallets &&
		x.rides >= 1 && x.rides <= api.MaxRides &&
		x.price <= api.MaxPrice &&
		x.status >= api.Issued && x.status <= api.Revoked &&
		x.paid <= math.MaxInt64 &&
		x.top <= api.MaxRides
}

// carnet is one that fits, as that of a serial.
func (x written) carnet(serial int) api.Carnet {
	c := api.Carnet{
		Owner:  int(x.owner),
		Cert:   api.Cert{Serial: serial, Rides: int(x.rides), Price: int64(x.price), Anchor: x.anchor, Sig: x.sig},
		Status: int(x.status),
		Refund: api.Refund{Acked: x.acked, Top: int(x.top)},
		Paid:   int64(x.paid),
	}
	if len(x.acked) > 0 {
		c.Refund.Serial, c.Refund.Rides = serial, c.Cert.Rides
	}
	return c
}

package terms

import (
	"math"

	"farebox/api"
	"farebox/wire"
)

// form is how terms of a kind stand in bytes. What is signed of a term, if anything, are its first fields.
type form[T any] struct {
	domain int
	signed int // how many fields are signed
	fields []field[T]
}

func certForm() form[api.Cert] {
	return form[api.Cert]{domain: api.DomainCert, signed: 4, fields: []field[api.Cert]{
		number(func(x *api.Cert) *int { return &x.Serial }, 1, api.MaxSerial),
		number(func(x *api.Cert) *int { return &x.Rides }, 1, api.MaxRides),
		money(func(x *api.Cert) *int64 { return &x.Price }, api.MaxPrice),
		fixed(func(x *api.Cert) []byte { return x.Anchor[:] }),
		fixed(func(x *api.Cert) []byte { return x.Sig[:] }),
	}}
}

func ticketForm() form[api.Ticket] {
	return form[api.Ticket]{domain: api.DomainTicket, fields: []field[api.Ticket]{
		inside(func(x *api.Ticket) *api.Cert { return &x.Cert }, certForm().fields),
		numberUpTo(func(x *api.Ticket) *int { return &x.Index }, 1, func(x *api.Ticket) int { return x.Cert.Rides }),
		fixed(func(x *api.Ticket) []byte { return x.Value[:] }),
	}}
}

func entryForm() form[api.Entry] {
	return form[api.Entry]{domain: api.DomainEntry, fields: []field[api.Entry]{
		inside(func(x *api.Entry) *api.Cert { return &x.Cert }, certForm().fields),
		numberUpTo(func(x *api.Entry) *int { return &x.Index }, 0, func(x *api.Entry) int { return x.Cert.Rides }),
		fixed(func(x *api.Entry) []byte { return x.Value[:] }),
		marked(func(x *api.Entry) *bool { return &x.Frozen }, func(x *api.Entry) *api.Sig { return &x.Freeze }),
		marked(func(x *api.Entry) *bool { return &x.Revoked }, func(x *api.Entry) *api.Sig { return &x.Revoke }),
	}}
}

func freezeForm() form[api.Freeze] {
	return form[api.Freeze]{domain: api.DomainFreeze, signed: 1, fields: []field[api.Freeze]{
		inside(func(x *api.Freeze) *api.Cert { return &x.Cert }, certForm().fields),
		fixed(func(x *api.Freeze) []byte { return x.Sig[:] }),
	}}
}

func ackForm() form[api.Ack] {
	return form[api.Ack]{domain: api.DomainAck, signed: 4, fields: []field[api.Ack]{
		number(func(x *api.Ack) *int { return &x.Serial }, 1, api.MaxSerial),
		number(func(x *api.Ack) *int { return &x.Gate }, 1, api.MaxGates),
		number(func(x *api.Ack) *int { return &x.Index }, 0, api.MaxRides),
		fixed(func(x *api.Ack) []byte { return x.Value[:] }),
		fixed(func(x *api.Ack) []byte { return x.Sig[:] }),
	}}
}

func revocationForm() form[api.Revocation] {
	return form[api.Revocation]{domain: api.DomainRevoke, signed: 1, fields: []field[api.Revocation]{
		inside(func(x *api.Revocation) *api.Cert { return &x.Cert }, certForm().fields),
		fixed(func(x *api.Revocation) []byte { return x.Sig[:] }),
	}}
}

func floorForm() form[api.Floor] {
	return form[api.Floor]{domain: api.DomainFloor, signed: 1, fields: []field[api.Floor]{
		// One above the greatest serial, so that a floor can retire that too.
		number(func(x *api.Floor) *int { return &x.Floor }, 1, api.MaxSerial+1),
		fixed(func(x *api.Floor) []byte { return x.Sig[:] }),
	}}
}

func receiptForm() form[api.Receipt] {
	return form[api.Receipt]{domain: api.DomainReceipt, signed: 3, fields: []field[api.Receipt]{
		number(func(x *api.Receipt) *int { return &x.Serial }, 1, api.MaxSerial),
		number(func(x *api.Receipt) *int { return &x.Rides }, 0, api.MaxRides),
		money(func(x *api.Receipt) *int64 { return &x.Amount }, math.MaxInt64),
		fixed(func(x *api.Receipt) []byte { return x.Sig[:] }),
	}}
}

func orderForm() form[api.Order] {
	return form[api.Order]{domain: api.DomainOrder, fields: []field[api.Order]{
		number(func(x *api.Order) *int { return &x.Rides }, 1, api.MaxRides),
		money(func(x *api.Order) *int64 { return &x.Price }, api.MaxPrice),
		fixed(func(x *api.Order) []byte { return x.Anchor[:] }),
	}}
}

func headForm() form[api.Head] {
	return form[api.Head]{domain: api.DomainHead, signed: 2, fields: []field[api.Head]{
		number(func(x *api.Head) *int { return &x.Size }, 0, api.MaxLeaves),
		fixed(func(x *api.Head) []byte { return x.Root[:] }),
		fixed(func(x *api.Head) []byte { return x.Sig[:] }),
	}}
}

// encode is the message of a term.
func (f form[T]) encode(x T) ([]byte, api.Errno) {
	told := tell(f.domain, f.fields, &x)
	if len(told) == 0 {
		return nil, api.ErrArg
	}
	return told, api.OK
}

// say is what is signed of a term.
func (f form[T]) say(x T) []byte { return tell(f.domain, f.fields[:f.signed], &x) }

// tell is the head and these fields, or no bytes where one of them does not fit.
func tell[T any](domain int, fields []field[T], x *T) []byte {
	if !allFit(fields, x) {
		return nil
	}
	w := wire.NewWriter()
	w.Fixed(wire.Head(domain))
	putAll(w, fields, x)
	told, _ := w.Done() // nothing that is put has a fault: no list of any length is among the fields
	return told
}

// decode is the term of a message.
func (f form[T]) decode(b []byte) (T, api.Errno) {
	var none, x T
	domain, body, err := split(b)
	if err != api.OK {
		return none, err
	}
	if domain != f.domain {
		return none, api.ErrDomain
	}
	r := wire.NewReader(body)
	getAll(r, f.fields, &x)
	if r.Done() != api.OK || !allFit(f.fields, &x) {
		return none, api.ErrForm
	}
	return x, api.OK
}

// split is the domain of a message, whichever that is, and what stands behind the head.
func split(b []byte) (int, []byte, api.Errno) {
	if len(b) > api.MaxMessage {
		return 0, nil, api.ErrLong
	}
	domain, at, err := wire.ReadHead(b)
	if err != api.OK {
		return 0, nil, api.ErrForm
	}
	return domain, b[at:], api.OK
}

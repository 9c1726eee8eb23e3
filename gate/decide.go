package gate

import (
	"farebox/api"
	"farebox/chain"
	"farebox/ring"
	"farebox/table"
	"farebox/terms"
)

// Decide tells whether a ticket is accepted, and the state behind it.
func Decide(r api.Ring, s api.GateState, rows int, t api.Ticket) (api.GateState, api.Errno) {
	if err := look(r, s, t); err != api.OK {
		return asItWas(s), err
	}
	// A ticket that is looked through is above the row, whose flags are down: the join with it is the row with the ticket's index and value.
	after, _, err := table.Put(s, rows, api.Entry{Cert: t.Cert, Index: t.Index, Value: t.Value})
	if err == api.OK {
		after.Accepted++
	}
	return after, err
}

// Learn joins another gate's entry in; it tells whether that changed anything.
func Learn(r api.Ring, s api.GateState, rows int, e api.Entry) (api.GateState, bool, api.Errno) {
	if err := ring.CheckEntry(r, e); err != api.OK {
		return asItWas(s), false, err
	}
	return table.Put(s, rows, e)
}

// Freeze stores a freeze.
func Freeze(r api.Ring, s api.GateState, rows int, f api.Freeze) (api.GateState, bool, api.Errno) {
	if _, err := terms.EncodeFreeze(f); err != api.OK {
		return asItWas(s), false, err
	}
	if !ring.CheckCert(r, f.Cert) || !ring.CheckFreeze(r, f) {
		return asItWas(s), false, api.ErrSign
	}
	e := unridden(f.Cert)
	e.Frozen, e.Freeze = true, f.Sig
	return table.Put(s, rows, e)
}

// Revoke stores a revocation.
func Revoke(r api.Ring, s api.GateState, rows int, v api.Revocation) (api.GateState, bool, api.Errno) {
	if _, err := terms.EncodeRevocation(v); err != api.OK {
		return asItWas(s), false, err
	}
	if !ring.CheckCert(r, v.Cert) || !ring.CheckRevocation(r, v) {
		return asItWas(s), false, api.ErrSign
	}
	e := unridden(v.Cert)
	e.Revoked, e.Revoke = true, v.Sig
	return table.Put(s, rows, e)
}

// Raise stores a floor.
func Raise(r api.Ring, s api.GateState, f api.Floor) (api.GateState, bool, api.Errno) {
	if _, err := terms.EncodeFloor(f); err != api.OK {
		return asItWas(s), false, err
	}
	if !ring.CheckFloor(r, f) {
		return asItWas(s), false, api.ErrSign
	}
	if f.Floor == s.Floor.Floor {
		return asItWas(s), false, api.OK
	}
	after, err := table.Raise(s, f)
	return after, err == api.OK, err
}

// look is the reason why a ticket is refused, but for want of room.
func look(r api.Ring, s api.GateState, t api.Ticket) api.Errno {
	if _, err := terms.EncodeTicket(t); err != api.OK {
		return err
	}
	if t.Cert.Serial < s.Floor.Floor {
		return api.ErrFloor
	}
	row, there := table.Find(s, t.Cert.Serial)
	if !there {
		row = unridden(t.Cert)
	}
	same := row.Cert == t.Cert
	switch {
	case !(there && same) && !ring.CheckCert(r, t.Cert): // a row's own was checked when it came
		return api.ErrSign
	case !same:
		return api.ErrOther
	case row.Revoked:
		return api.ErrGone
	case row.Frozen:
		return api.ErrFrozen
	case t.Index <= row.Index:
		return api.ErrIndex
	case !chain.Link(row.Index, row.Value, t.Index, t.Value):
		return api.ErrChain
	}
	return api.OK
}

// unridden is what is known of a carnet by its certificate alone.
func unridden(c api.Cert) api.Entry { return api.Entry{Cert: c, Value: c.Anchor} }

// asItWas is a state with its rows in memory of their own.
func asItWas(s api.GateState) api.GateState {
	s.Rows = append([]api.Entry(nil), s.Rows...)
	return s
}

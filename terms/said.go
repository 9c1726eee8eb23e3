package terms

import "farebox/api"

// part is what is signed in a message, and the signature on it.
type part struct {
	say []byte
	sig api.Sig
}

// parts reads a message of a domain, which is one of the ten, and finds what is signed in it.
func parts(domain int, b []byte) ([]part, api.Errno) {
	switch domain {
	case api.DomainCert:
		return partsOf(certForm(), certParts, b)
	case api.DomainTicket:
		return partsOf(ticketForm(), func(x api.Ticket) []part { return certParts(x.Cert) }, b)
	case api.DomainEntry:
		return partsOf(entryForm(), entryParts, b)
	case api.DomainFreeze:
		return partsOf(freezeForm(), freezeParts, b)
	case api.DomainAck:
		return partsOf(ackForm(), func(x api.Ack) []part { return []part{{SayAck(x), x.Sig}} }, b)
	case api.DomainRevoke:
		return partsOf(revocationForm(), revocationParts, b)
	case api.DomainFloor:
		return partsOf(floorForm(), func(x api.Floor) []part { return []part{{SayFloor(x), x.Sig}} }, b)
	case api.DomainReceipt:
		return partsOf(receiptForm(), func(x api.Receipt) []part { return []part{{SayReceipt(x), x.Sig}} }, b)
	case api.DomainOrder:
		return partsOf(orderForm(), func(api.Order) []part { return nil }, b)
	default:
		return partsOf(headForm(), func(x api.Head) []part { return []part{{SayHead(x), x.Sig}} }, b)
	}
}

// partsOf reads a message of a form, and finds in its term what is signed.
func partsOf[T any](f form[T], find func(T) []part, b []byte) ([]part, api.Errno) {
	x, err := f.decode(b)
	if err != api.OK {
		return nil, err
	}
	return find(x), api.OK
}

func certParts(x api.Cert) []part {
	return []part{{SayCert(x), x.Sig}}
}

func freezeParts(x api.Freeze) []part {
	return append(certParts(x.Cert), part{SayFreeze(x), x.Sig})
}

func revocationParts(x api.Revocation) []part {
	return append(certParts(x.Cert), part{SayRevocation(x), x.Sig})
}

func entryParts(x api.Entry) []part {
	found := certParts(x.Cert)
	if x.Frozen {
		found = append(found, part{SayFreeze(api.Freeze{Cert: x.Cert}), x.Freeze})
	}
	if x.Revoked {
		found = append(found, part{SayRevocation(api.Revocation{Cert: x.Cert}), x.Revoke})
	}
	return found
}

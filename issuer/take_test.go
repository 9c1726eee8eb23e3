package issuer_test

import (
	"math"
	"strings"
	"testing"

	"farebox/api"
)

// nodes are numbers that a message may come from: wallets', gates', the issuer's, and none's.
var nodes = []int{math.MinInt, -1, 0, 1, 2, 3, 4, 5, 6, 9, 24, 1 << 32, math.MaxInt}

// TestBytesP23_1: bytes that are no message of any kind, and those of kinds that an issuer does not take.
func TestBytesP23_1(t *testing.T) {
	p := begin(t, config)
	p.want(taking(4, order(1, 10)), api.OK, 1)
	p.want(freezing(1), api.OK, 1)
	cert := p.m.s.Carnets[0].Cert
	v := value(1, 3, 1)
	zeros := strings.Repeat("\x00", 64)
	for what, body := range map[string]string{
		"a certificate": tellCert(cert),
		"a ticket":      head(2) + tellCert(cert)[4:] + u32(1) + string(v[:]),
		"an entry":      head(3) + tellCert(cert)[4:] + u32(1) + string(v[:]) + "\x00\x00",
		"a freeze":      tellFreeze(cert),
		"a revocation":  tellRevocation(cert),
		"a floor":       tellFloor(floorOf(2)),
		"a receipt":     tellReceipt(1, 1, 10),
		"a head":        head(10) + u32(1) + zeros[:32] + zeros,
		"a kind of none that a wallet could tell": head(11) + order(2, 10)[4:],
		"the last kind":                 head(255),
		"a certificate that is cut off": tellCert(cert)[:5],
		"a ticket of nothing":           head(2),
	} {
		for _, from := range nodes {
			if a := p.unwritten(taking(from, body), api.ErrDomain); len(a.Out) > 0 {
				t.Errorf("P23.1: %s from %d: %+v", what, from, a)
			}
		}
	}
	for _, body := range []string{"", "F", "FB\x01", "FB\x01\x00", "FB\x02\x09" + order(2, 10)[4:], "fb\x01\x09" + order(2, 10)[4:], order(2, 10)[1:], zeros} {
		p.unwritten(taking(4, body), api.ErrForm)
	}
	for _, h := range []string{head(9), head(5), head(1), head(99), zeros} {
		long := h + strings.Repeat("\x00", 1025-len(h))
		p.unwritten(taking(4, long), api.ErrLong)
	}
	if a := p.i.Take(4, nil); !sameAnswer(a, refusal(api.ErrForm)) {
		t.Errorf("P23.1: nil = %+v", a)
	}
}

// TestCutShortP23_1: an order and an acknowledgement of every length but their own.
func TestCutShortP23_1(t *testing.T) {
	p := begin(t, config)
	p.want(taking(4, order(1, 10)), api.OK, 1)
	p.want(freezing(1), api.OK, 1)
	good := tellAck(1, api.Ack{Serial: 1, Gate: 1, Index: 1, Value: value(1, 3, 1)})
	for _, body := range []string{order(2, 10), order(1, 10), good} {
		for n := range len(body) {
			p.unwritten(taking(4, body[:n]), api.ErrForm)
		}
		p.unwritten(taking(4, body+"\x00"), api.ErrForm)
		p.unwritten(taking(4, body+body), api.ErrForm)
		p.unwritten(taking(4, body+strings.Repeat("\x00", 1024-len(body))), api.ErrForm)
		p.unwritten(taking(4, body+strings.Repeat("\x00", 1025-len(body))), api.ErrLong)
	}
	p.want(taking(4, order(2, 10)), api.OK, 2)
	p.want(taking(4, good), api.OK, 1, 1, 2)
}

// TestFieldsP23_1: each field of an order and of an acknowledgement at the ends of its range, and beyond.
func TestFieldsP23_1(t *testing.T) {
	p := begin(t, config)
	p.want(taking(4, order(1, 10)), api.OK, 1)
	p.want(freezing(1), api.OK, 1)
	tail := string(make([]byte, 32))
	for _, rides := range []int{0, 4097, 1 << 31, 1<<32 - 1} {
		p.unwritten(taking(4, head(9)+u32(rides)+u64(1)+tail), api.ErrForm)
	}
	for _, price := range []uint64{1000000001, 1<<63 - 1, 1 << 63, 1<<64 - 1} {
		p.unwritten(taking(4, head(9)+u32(1)+u64(price)+tail), api.ErrForm)
	}
	p.want(taking(4, head(9)+u32(1)+u64(0)+tail), api.OK, 2)
	other := string(make([]byte, 31)) + "\x01"
	p.want(taking(4, head(9)+u32(4096)+u64(1000000000)+other), api.OK, 3)
	for _, x := range []api.Ack{
		{Serial: 0, Gate: 1}, {Serial: 65536, Gate: 1}, {Serial: 1<<32 - 1, Gate: 1},
		{Serial: 1, Gate: 0}, {Serial: 1, Gate: 17}, {Serial: 1, Gate: 1<<32 - 1},
		{Serial: 1, Gate: 1, Index: 4097}, {Serial: 1, Gate: 1, Index: 1<<32 - 1},
	} {
		p.unwritten(taking(1, tellAck(1, x)), api.ErrForm)
	}
	// In range as a message, but of no carnet, of no gate, and above the rides.
	p.unwritten(taking(1, tellAck(1, api.Ack{Serial: 65535, Gate: 1})), api.ErrSerial)
	p.unwritten(taking(1, tellAck(1, api.Ack{Serial: 1, Gate: 16})), api.ErrSign)
	p.unwritten(taking(1, tellAck(1, api.Ack{Serial: 1, Gate: 1, Index: 4096})), api.ErrAcked)
}

// numbers are serials and floors at the ends of their ranges and beyond, for a configuration of 6 serials.
var numbers = []int{math.MinInt, math.MinInt + 1, -1, 0, 1, 2, 3, 4, 5, 6, 7, 8, 65535, 65536, 65537, 1 << 32, 1<<32 + 1, math.MaxInt - 1, math.MaxInt}

// TestEndsP23: every call with every number ends, of a new Issuer and of one with carnets of all statuses, and answers what the model does.
func TestEndsP23(t *testing.T) {
	for _, s := range []api.IssuerState{{}, fourStatuses(), withFloor(fourStatuses(), 3)} {
		for _, n := range numbers {
			for _, o := range []op{freezing(n), paying(n), revoking(n), raising(n), taking(n, ""), taking(n, order(9, 5)), taking(n, order(1, 10))} {
				p := stand(t, s)
				p.do(o)
				p.do(o)
				p.open()
			}
			p := stand(t, s)
			proof, err := p.i.Prove(n)
			if issued(s, n) != (err == api.OK) || err != api.OK && (err != api.ErrSerial || len(proof) > 0) {
				t.Errorf("P23.11: Prove(%d) = %v, %d", n, proof, err)
			}
		}
	}
}

// carnet is that of a serial of three rides at 10, whose chain is its serial, with the status.
func carnet(serial, owner, status int) api.Carnet {
	c := api.Carnet{Owner: owner, Cert: sealed(api.Cert{Serial: serial, Rides: 3, Price: 10, Anchor: anchor(serial)}), Status: status}
	switch status {
	case api.Freezing:
		c.Refund = api.Refund{Serial: serial, Rides: 3, Acked: make([]bool, 3)}
	case api.Paid:
		c.Refund = api.Refund{Serial: serial, Rides: 3, Acked: []bool{true, true, true}, Top: 1}
		c.Paid = 20
	}
	return c
}

// stateOf is a state with these carnets, that an Issuer could have come to: the accounts are as they must be, and the certificates are logged.
func stateOf(carnets ...api.Carnet) (s api.IssuerState) {
	for _, c := range carnets {
		cost := int64(c.Cert.Rides) * c.Cert.Price
		s.Book.Net[api.Cash] += cost - c.Paid
		if c.Status == api.Issued || c.Status == api.Freezing {
			s.Book.Net[api.Unearned] -= cost
		} else {
			s.Book.Net[api.Earned] -= cost - c.Paid
		}
		s.Leaves = append(s.Leaves, leafOf(tellCert(c.Cert)))
	}
	s.Carnets = carnets
	return s
}

// fourStatuses has a carnet of each status: serial 1 is Issued, 2 Freezing, 3 Paid, 4 Revoked.
func fourStatuses() api.IssuerState {
	return stateOf(carnet(1, 4, api.Issued), carnet(2, 5, api.Freezing), carnet(3, 4, api.Paid), carnet(4, 0, api.Revoked))
}

func withFloor(s api.IssuerState, n int) api.IssuerState {
	s.Floor = floorOf(n)
	return s
}

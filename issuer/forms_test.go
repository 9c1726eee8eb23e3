package issuer_test

import (
	"crypto/ed25519"
	"crypto/hmac"
	"crypto/sha256"
	"encoding/binary"
	"math"
	"strings"
	"sync"

	"farebox/api"
	"farebox/frame"
)

// The forms of the chapters, laid out by hand and read by hand, and signatures by the library.

const lastEpoch = math.MaxInt64

func u32(x int) string { return string(binary.BigEndian.AppendUint32(nil, uint32(x))) }

func u64(x uint64) string { return string(binary.BigEndian.AppendUint64(nil, x)) }

func short(x uint64) string { return string(binary.AppendUvarint(nil, x)) }

func head(domain byte) string { return "FB\x01" + string([]byte{domain}) }

// secrets are the signing keys of all nodes, by the library.
var secrets = sync.OnceValue(func() []ed25519.PrivateKey {
	var list []ed25519.PrivateKey
	for n := range config.Gates + config.Wallets + 1 {
		h := hmac.New(sha256.New, config.Secret[:])
		h.Write([]byte("node\x00" + u64(uint64(n)) + "\x01"))
		list = append(list, ed25519.NewKeyFromSeed(h.Sum(nil)))
	}
	return list
})

func sealBy(node int, say string) api.Sig {
	return api.Sig(ed25519.Sign(secrets()[node], []byte(say)))
}

// seal is the issuer's signature.
func seal(say string) api.Sig { return sealBy(0, say) }

func certSay(c api.Cert) string {
	return head(1) + u32(c.Serial) + u32(c.Rides) + u64(uint64(c.Price)) + string(c.Anchor[:])
}

func tellCert(c api.Cert) string { return certSay(c) + string(c.Sig[:]) }

// sealed is a certificate with the issuer's signature.
func sealed(c api.Cert) api.Cert {
	c.Sig = seal(certSay(c))
	return c
}

// signedTell is a message of what is signed, and the issuer's signature behind it.
func signedTell(say string) string {
	sig := seal(say)
	return say + string(sig[:])
}

func tellFreeze(c api.Cert) string { return signedTell(head(4) + tellCert(c)[4:]) }

func tellRevocation(c api.Cert) string { return signedTell(head(6) + tellCert(c)[4:]) }

func tellReceipt(serial, rides int, amount int64) string {
	return signedTell(head(8) + u32(serial) + u32(rides) + u64(uint64(amount)))
}

func floorOf(n int) api.Floor { return api.Floor{Floor: n, Sig: seal(head(7) + u32(n))} }

func tellFloor(f api.Floor) string { return head(7) + u32(f.Floor) + string(f.Sig[:]) }

func tellOrder(rides int, price int64, anchor api.Hash) string {
	return head(9) + u32(rides) + u64(uint64(price)) + string(anchor[:])
}

// tellAck is an acknowledgement that node has signed.
func tellAck(node int, x api.Ack) string {
	say := head(5) + u32(x.Serial) + u32(x.Gate) + u32(x.Index) + string(x.Value[:])
	sig := sealBy(node, say)
	return say + string(sig[:])
}

// leafOf is the hash of a leaf.
func leafOf(message string) api.Hash { return sha256.Sum256([]byte("\x00" + message)) }

// The records.

func orderRecord(owner int, order string) string { return "\x01" + short(uint64(owner)) + order }

func ackRecord(ack string) string { return "\x02" + ack }

func numberRecord(kind byte, n int) string { return string([]byte{kind}) + short(uint64(n)) }

// written is a carnet as a snapshot tells it, by its bytes alone.
type written struct {
	owner, rides, price uint64
	anchor, sig         string
	status              byte
	paid                uint64
	acked               string
	top                 uint64
}

func (x written) told() string {
	return short(x.owner) + short(x.rides) + short(x.price) + x.anchor + x.sig + string([]byte{x.status}) + short(x.paid) + short(uint64(len(x.acked))) + x.acked + short(x.top)
}

func writtenOf(c api.Carnet) written {
	x := written{uint64(c.Owner), uint64(c.Cert.Rides), uint64(c.Cert.Price), string(c.Cert.Anchor[:]), string(c.Cert.Sig[:]), byte(c.Status), uint64(c.Paid), "", uint64(c.Refund.Top)}
	for _, is := range c.Refund.Acked {
		if is {
			x.acked += "\x01"
		} else {
			x.acked += "\x00"
		}
	}
	return x
}

// snapshotOf is a snapshot of these parts.
func snapshotOf(floor uint64, sig api.Sig, nets [3]int64, carnets []string, leaves []string) string {
	b := short(floor) + string(sig[:])
	for _, net := range nets {
		b += u64(uint64(net))
	}
	return b + short(uint64(len(carnets))) + strings.Join(carnets, "") + short(uint64(len(leaves))) + strings.Join(leaves, "")
}

// blank is the snapshot of the state of zeros.
var blank = strings.Repeat("\x00", 1+64+24+2)

// snapshot is that of a state.
func snapshot(s api.IssuerState) string {
	var carnets, leaves []string
	for _, c := range s.Carnets {
		carnets = append(carnets, writtenOf(c).told())
	}
	for _, leaf := range s.Leaves {
		leaves = append(leaves, string(leaf[:]))
	}
	return snapshotOf(uint64(s.Floor.Floor), s.Floor.Sig, s.Book.Net, carnets, leaves)
}

// bank is a journal's bank.
func bank(epoch uint64, snapshot string, records ...string) []byte {
	b, _ := frame.Encode('H', []byte(u64(epoch)+u32(0)+snapshot))
	for _, r := range records {
		whole, _ := frame.Encode('R', []byte(r))
		b = append(b, whole...)
	}
	return b
}

// bytesAhead reads bytes from the front on; once they do not hold what is asked for, bad is so.
type bytesAhead struct {
	b   string
	bad bool
}

func (a *bytesAhead) next(n uint64) string {
	if n > uint64(len(a.b)) {
		a.bad, a.b = true, ""
		return ""
	}
	out := a.b[:n]
	a.b = a.b[n:]
	return out
}

// short is a number in its shortest form, from least to most.
func (a *bytesAhead) short(least, most uint64) uint64 {
	x, n := binary.Uvarint([]byte(a.b))
	if n <= 0 || x < least || x > most || short(x) != a.b[:n] {
		a.bad, a.b = true, ""
		return 0
	}
	a.next(uint64(n))
	return x
}

func (a *bytesAhead) flag() bool {
	b := a.next(1)
	a.bad = a.bad || b > "\x01"
	return b == "\x01"
}

func (a *bytesAhead) carnet(serial int) (c api.Carnet) {
	c.Owner = int(a.short(0, 24))
	c.Cert.Serial = serial
	c.Cert.Rides = int(a.short(1, 4096))
	c.Cert.Price = int64(a.short(0, 1000000000))
	copy(c.Cert.Anchor[:], a.next(32))
	copy(c.Cert.Sig[:], a.next(64))
	c.Status = int(a.short(1, 4)) // all that are in range have one byte in a short form too
	c.Paid = int64(a.short(0, 1<<63-1))
	for range a.short(0, 16) {
		c.Refund.Acked = append(c.Refund.Acked, a.flag())
		c.Refund.Serial, c.Refund.Rides = serial, c.Cert.Rides
	}
	c.Refund.Top = int(a.short(0, 4096))
	return c
}

// readState is the state of a snapshot; false, if it cannot be read.
func readState(snap string) (s api.IssuerState, ok bool) {
	a := &bytesAhead{b: snap}
	s.Floor.Floor = int(a.short(0, 65536))
	copy(s.Floor.Sig[:], a.next(64))
	for i := range s.Book.Net {
		if b := a.next(8); !a.bad {
			s.Book.Net[i] = int64(binary.BigEndian.Uint64([]byte(b)))
		}
	}
	for serial := range a.short(0, 65535) {
		s.Carnets = append(s.Carnets, a.carnet(int(serial)+1))
		if a.bad {
			return api.IssuerState{}, false
		}
	}
	for range a.short(0, 65536) {
		var leaf api.Hash
		copy(leaf[:], a.next(32))
		s.Leaves = append(s.Leaves, leaf)
		if a.bad {
			return api.IssuerState{}, false
		}
	}
	return s, !a.bad && a.b == ""
}

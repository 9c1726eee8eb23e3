package wallet_test

import (
	"encoding/binary"
	"math"
	"strings"

	"farebox/api"
	"farebox/frame"
	"farebox/terms"
)

// The forms of the chapter, laid out by hand and read by hand.

const lastEpoch = math.MaxInt64

func u32(x uint32) string { return string(binary.BigEndian.AppendUint32(nil, x)) }

func u64(x uint64) string { return string(binary.BigEndian.AppendUint64(nil, x)) }

func short(x int) string { return string(binary.AppendUvarint(nil, uint64(x))) }

// sized is bytes behind their number.
func sized(b string) string { return short(len(b)) + b }

func orderOf(rides uint32, price uint64) string { return "\x01" + u32(rides) + u64(price) }

func certOf(k uint32, told string) string { return "\x02" + u32(k) + told }

func rideOf(serial uint32) string { return "\x03" + u32(serial) }

func receiptOf(told string) string { return "\x04" + told }

// purse is one in a snapshot, with the bytes of its messages; none, if it has none.
func purse(rides uint32, price uint64, cert string, revealed uint32, receipt string) string {
	return u32(rides) + u64(price) + maybe(cert) + u32(revealed) + maybe(receipt)
}

func maybe(told string) string {
	if told == "" {
		return "\x00"
	}
	return "\x01" + sized(told)
}

func snapshotOf(purses ...string) string { return short(len(purses)) + strings.Join(purses, "") }

// snapshot is that of a state.
func snapshot(purses []api.Purse) string {
	var list []string
	for _, p := range purses {
		cert, receipt := "", ""
		if p.Cert.Serial != 0 {
			cert = tell(p.Cert)
		}
		if p.Refund.Serial != 0 {
			receipt = tellReceipt(p.Refund)
		}
		list = append(list, purse(uint32(p.Rides), uint64(p.Price), cert, uint32(p.Revealed), receipt))
	}
	return snapshotOf(list...)
}

func tell(x api.Cert) string {
	b, err := terms.EncodeCert(x)
	if err != api.OK {
		panic(x)
	}
	return string(b)
}

func tellReceipt(x api.Receipt) string {
	b, err := terms.EncodeReceipt(x)
	if err != api.OK {
		panic(x)
	}
	return string(b)
}

// bank is a journal's bank.
func bank(epoch uint64, snapshot string, records ...string) []byte {
	b, _ := frame.Encode('H', []byte(u64(epoch)+u32(0)+snapshot))
	for _, r := range records {
		told, _ := frame.Encode('R', []byte(r))
		b = append(b, told...)
	}
	return b
}

// bytesAhead reads bytes from the front on; once they do not hold what is asked for, bad is so.
type bytesAhead struct {
	b   string
	bad bool
}

func (a *bytesAhead) next(n int) string {
	if n < 0 || n > len(a.b) {
		a.bad, a.b = true, ""
		return strings.Repeat("\x00", max(0, min(n, 8)))
	}
	out := a.b[:n]
	a.b = a.b[n:]
	return out
}

func (a *bytesAhead) u32() int { return int(binary.BigEndian.Uint32([]byte(a.next(4)))) }

func (a *bytesAhead) u64() uint64 { return binary.BigEndian.Uint64([]byte(a.next(8))) }

func (a *bytesAhead) short() int {
	x, n := binary.Uvarint([]byte(a.b))
	if n <= 0 || x > 1<<20 || short(int(x)) != a.b[:n] {
		a.bad = true
		return 0
	}
	a.next(n)
	return int(x)
}

func (a *bytesAhead) flag() bool {
	x := a.next(1)
	a.bad = a.bad || x > "\x01"
	return x == "\x01"
}

// message is one that may be missing.
func (a *bytesAhead) message() string {
	if !a.flag() {
		return ""
	}
	n := a.short()
	a.bad = a.bad || n == 0 || n > api.MaxMessage
	return a.next(n)
}

func (a *bytesAhead) cert(told string) api.Cert {
	x, err := terms.DecodeCert([]byte(told))
	a.bad = a.bad || err != api.OK
	return x
}

func (a *bytesAhead) receipt(told string) api.Receipt {
	x, err := terms.DecodeReceipt([]byte(told))
	a.bad = a.bad || err != api.OK
	return x
}

func orderable(rides int, price uint64) bool {
	return rides >= 1 && rides <= 4096 && price <= 1000000000
}

// readPurses is what the chapter says of a snapshot.
func readPurses(b string) ([]api.Purse, bool) {
	a := &bytesAhead{b: b}
	n := a.short()
	if n > 65535 {
		return nil, false
	}
	var out []api.Purse
	for k := 1; k <= n && !a.bad; k++ {
		p := a.purse(k)
		for _, q := range out {
			a.bad = a.bad || p.Cert.Serial != 0 && q.Cert.Serial == p.Cert.Serial
		}
		out = append(out, p)
	}
	return out, !a.bad && a.b == ""
}

func (a *bytesAhead) purse(k int) api.Purse {
	rides, price := a.u32(), a.u64()
	p := api.Purse{Chain: k, Rides: rides, Price: int64(price)}
	a.bad = a.bad || !orderable(rides, price)
	if told := a.message(); told != "" {
		p.Cert = a.cert(told)
		a.bad = a.bad || p.Cert.Rides != rides || p.Cert.Price != p.Price
	}
	p.Revealed = a.u32()
	a.bad = a.bad || p.Revealed > rides || p.Revealed > 0 && p.Cert.Serial == 0
	if told := a.message(); told != "" {
		p.Refund = a.receipt(told)
		a.bad = a.bad || p.Refund.Serial != p.Cert.Serial
	}
	return p
}

// playOn is what the chapter says of a record.
func playOn(old []api.Purse, record string) ([]api.Purse, bool) {
	a := &bytesAhead{b: record}
	purses := append([]api.Purse{}, old...)
	switch a.next(1) {
	case "\x01":
		rides, price := a.u32(), a.u64()
		a.bad = a.bad || !orderable(rides, price)
		purses = append(purses, api.Purse{Chain: len(old) + 1, Rides: rides, Price: int64(price)})
	case "\x02":
		k, x := a.u32(), a.cert(a.next(len(a.b)))
		if k < 1 || k > len(purses) || carnet(purses, x.Serial) != nil {
			return nil, false
		}
		p := &purses[k-1]
		a.bad = a.bad || p.Cert.Serial != 0 || p.Rides != x.Rides || p.Price != x.Price
		p.Cert = x
	case "\x03":
		p := carnet(purses, a.u32())
		if p == nil || p.Refund.Serial != 0 || p.Revealed == p.Rides {
			return nil, false
		}
		p.Revealed++
	case "\x04":
		x := a.receipt(a.next(len(a.b)))
		p := carnet(purses, x.Serial)
		if p == nil || p.Refund.Serial != 0 {
			return nil, false
		}
		p.Refund = x
	default:
		return nil, false
	}
	return purses, !a.bad && a.b == ""
}

// carnet is the first purse whose certificate has that serial.
func carnet(purses []api.Purse, serial int) *api.Purse {
	for i := range purses {
		if serial != 0 && purses[i].Cert.Serial == serial {
			return &purses[i]
		}
	}
	return nil
}

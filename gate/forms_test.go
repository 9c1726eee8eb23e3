package gate_test

import (
	"encoding/binary"
	"math"
	"strings"

	"farebox/api"
	"farebox/frame"
	"farebox/terms"
)

// The forms of the chapter, laid out by hand and read by hand.

const lastEpoch = math.MaxInt64

func u32(x uint32) string { return string(binary.BigEndian.AppendUint32(nil, x)) }

func u64(x uint64) string { return string(binary.BigEndian.AppendUint64(nil, x)) }

func short(x int) string { return string(binary.AppendUvarint(nil, uint64(x))) }

// sized is bytes behind their number.
func sized(b string) string { return short(len(b)) + b }

// told is a term's message.
func told[T any](encode func(T) ([]byte, api.Errno), x T) string {
	b, err := encode(x)
	if err != api.OK {
		panic(x)
	}
	return string(b)
}

func tellTicket(x api.Ticket) string { return told(terms.EncodeTicket, x) }

func tellEntry(x api.Entry) string { return told(terms.EncodeEntry, x) }

func tellFreeze(x api.Freeze) string { return told(terms.EncodeFreeze, x) }

func tellRevocation(x api.Revocation) string { return told(terms.EncodeRevocation, x) }

func tellFloor(x api.Floor) string { return told(terms.EncodeFloor, x) }

func rideOf(e api.Entry) string { return "\x01" + tellEntry(e) }

func entryOf(e api.Entry) string { return "\x02" + tellEntry(e) }

func floorOf(f api.Floor) string { return "\x03" + tellFloor(f) }

// snapshotOf is a snapshot of these parts: the floor's message, or none, and the rows' messages.
func snapshotOf(accepted uint64, floor string, rows ...string) string {
	b := u64(accepted) + sized(floor) + short(len(rows))
	for _, row := range rows {
		b += sized(row)
	}
	return b
}

// blank is the snapshot of the state of zeros.
var blank = strings.Repeat("\x00", 10)

// snapshot is that of a state.
func snapshot(k known) string {
	floor := ""
	if k.floor.Floor != 0 {
		floor = tellFloor(k.floor)
	}
	var rows []string
	for _, e := range k.list() {
		rows = append(rows, tellEntry(e))
	}
	return snapshotOf(uint64(k.accepted), floor, rows...)
}

// bank is a journal's bank.
func bank(epoch uint64, snapshot string, records ...string) []byte {
	b, _ := frame.Encode('H', []byte(u64(epoch)+u32(0)+snapshot))
	for _, r := range records {
		whole, _ := frame.Encode('R', []byte(r))
		b = append(b, whole...)
	}
	return b
}

// bytesAhead reads bytes from the front on; once they do not hold what is asked for, bad is so.
type bytesAhead struct {
	b   string
	bad bool
}

func (a *bytesAhead) next(n int) string {
	if n < 0 || n > len(a.b) {
		a.bad, a.b = true, ""
		return ""
	}
	out := a.b[:n]
	a.b = a.b[n:]
	return out
}

func (a *bytesAhead) short() int {
	x, n := binary.Uvarint([]byte(a.b))
	if n <= 0 || x > 1<<20 || short(int(x)) != a.b[:n] {
		a.bad = true
		return 0
	}
	a.next(n)
	return int(x)
}

// readState is what the chapter says of a snapshot.
func readState(b string) (known, bool) {
	a := &bytesAhead{b: b}
	k := newKnown()
	head := a.next(8)
	if a.bad || head[0] >= 128 {
		return known{}, false
	}
	k.accepted = int(binary.BigEndian.Uint64([]byte(head)))
	if floor := a.next(a.short()); floor != "" {
		var err api.Errno
		k.floor, err = terms.DecodeFloor([]byte(floor))
		a.bad = a.bad || err != api.OK
	}
	n := a.short()
	a.bad = a.bad || n > 256
	for last := 0; n > 0 && !a.bad; n-- {
		e, err := terms.DecodeEntry([]byte(a.next(a.short())))
		serial := e.Cert.Serial
		a.bad = a.bad || err != api.OK || serial <= last || serial < k.floor.Floor
		k.rows[serial], last = e, serial
	}
	return k, !a.bad && a.b == ""
}

// playOn is what the chapter says of a record.
func playOn(old known, bound int, record string) (known, bool) {
	k := old.copy()
	if record == "" {
		return known{}, false
	}
	body := []byte(record[1:])
	switch record[0] {
	case 1, 2:
		e, err := terms.DecodeEntry(body)
		_, there := k.rows[e.Cert.Serial]
		if err != api.OK || e.Cert.Serial < k.floor.Floor || !there && len(k.rows) >= bound {
			return known{}, false
		}
		k.rows[e.Cert.Serial] = e
		if record[0] == 1 {
			if k.accepted == math.MaxInt {
				return known{}, false
			}
			k.accepted++
		}
		return k, true
	case 3:
		f, err := terms.DecodeFloor(body)
		if err != api.OK || f.Floor <= k.floor.Floor {
			return known{}, false
		}
		return k.raised(f), true
	}
	return known{}, false
}

package gate

import (
	"cmp"
	"math"
	"slices"

	"farebox/api"
	"farebox/table"
	"farebox/terms"
	"farebox/wire"
)

// The kinds of records.
const (
	rideKind  = 1
	entryKind = 2
	floorKind = 3
)

// rowRecord is the record of a row as it stands behind a change.
func rowRecord(kind byte, row api.Entry) []byte {
	told, _ := terms.EncodeEntry(row)
	return append([]byte{kind}, told...)
}

// floorRecord is the record of a floor.
func floorRecord(f api.Floor) []byte { return append([]byte{floorKind}, floorTold(f)...) }

// floorTold is a floor's message; no bytes, if there was none yet, since no message tells 0.
func floorTold(f api.Floor) []byte {
	told, _ := terms.EncodeFloor(f)
	return told
}

// snapshot is a state in bytes.
func snapshot(s api.GateState) []byte {
	w := wire.NewWriter()
	w.U64(uint64(s.Accepted))
	w.Bytes(floorTold(s.Floor), api.MaxMessage)
	wire.PutList(w, s.Rows, api.MaxRows, func(w *wire.Writer, row api.Entry) {
		told, _ := terms.EncodeEntry(row)
		w.Bytes(told, api.MaxMessage)
	})
	told, _ := w.Done() // there is no fault: a gate has no more rows than a configuration may have
	return told
}

// readSnapshot is the state that these bytes tell; false, if they cannot be read.
func readSnapshot(b []byte) (api.GateState, bool) {
	r := wire.NewReader(b)
	accepted, floor := r.U64(), r.Bytes(api.MaxMessage)
	list := wire.GetList(r, api.MaxRows, func(r *wire.Reader) []byte { return r.Bytes(api.MaxMessage) })
	if r.Done() != api.OK || accepted > math.MaxInt {
		return api.GateState{}, false
	}
	s := api.GateState{Accepted: int(accepted)}
	if len(floor) > 0 {
		var err api.Errno
		if s.Floor, err = terms.DecodeFloor(floor); err != api.OK {
			return api.GateState{}, false
		}
	}
	var ok bool
	s.Rows, ok = readRows(list, s.Floor.Floor)
	return s, ok
}

// readRows is the entries of these messages; false, if one is none, or its serial is not above the one ahead of it, or it is below the floor.
func readRows(list [][]byte, least int) ([]api.Entry, bool) {
	var rows []api.Entry
	for _, told := range list {
		row, err := terms.DecodeEntry(told)
		if err != api.OK || row.Cert.Serial < least {
			return nil, false
		}
		rows, least = append(rows, row), row.Cert.Serial+1
	}
	return rows, true
}

// play is the state behind a record, with a bound of rows; false, if it cannot be played. The rows that are handed in are used up: they are changed where they lie.
func play(s api.GateState, rows int, record []byte) (api.GateState, bool) {
	if len(record) == 0 {
		return s, false
	}
	switch kind, told := record[0], record[1:]; kind {
	case rideKind:
		if s.Accepted == math.MaxInt {
			return s, false
		}
		s.Accepted++
		return playRow(s, rows, told)
	case entryKind:
		return playRow(s, rows, told)
	case floorKind:
		return playFloor(s, told)
	}
	return s, false
}

// playRow lays a row in the place of the one of its serial: what a record tells was joined ahead of being laid down.
func playRow(s api.GateState, rows int, told []byte) (api.GateState, bool) {
	row, err := terms.DecodeEntry(told)
	if err != api.OK || row.Cert.Serial < s.Floor.Floor {
		return s, false
	}
	at, there := slices.BinarySearchFunc(s.Rows, row.Cert.Serial, func(e api.Entry, serial int) int {
		return cmp.Compare(e.Cert.Serial, serial)
	})
	switch {
	case there:
		s.Rows[at] = row
	case len(s.Rows) < rows:
		s.Rows = slices.Insert(s.Rows, at, row)
	default:
		return s, false
	}
	return s, true
}

func playFloor(s api.GateState, told []byte) (api.GateState, bool) {
	f, err := terms.DecodeFloor(told)
	if err != api.OK {
		return s, false
	}
	after, err := table.Raise(s, f)
	return after, err == api.OK
}

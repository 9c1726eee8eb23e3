package table_test

import (
	"maps"
	"math"
	"math/rand/v2"
	"slices"
	"testing"

	"farebox/api"
)

// edges are the numbers by the ends of an int and around 0.
var edges = []int{math.MinInt, math.MinInt + 1, -2, -1, 0, 1, 2, math.MaxInt - 1, math.MaxInt}

// c and d are the certificates of the chapter's examples.
var c, d = cert(3), cert(5)

func chance(n uint64) *rand.Rand { return rand.New(rand.NewPCG(17, n)) }

// cert is a certificate of a serial; one serial has one.
func cert(serial int) api.Cert {
	return api.Cert{Serial: serial, Rides: 9, Price: 100, Anchor: value(byte(serial)), Sig: sig(byte(serial + 1))}
}

// value is 32 bytes that are all v.
func value(v byte) api.Hash { return api.Hash(slices.Repeat([]byte{v}, 32)) }

// sig is a signature whose bytes are all v.
func sig(v byte) api.Sig { return api.Sig(slices.Repeat([]byte{v}, 64)) }

// at is an entry with a mark.
func at(x api.Cert, index int, v byte) api.Entry {
	return api.Entry{Cert: x, Index: index, Value: value(v)}
}

func frozen(e api.Entry, v byte) api.Entry {
	e.Frozen, e.Freeze = true, sig(v)
	return e
}

func revoked(e api.Entry, v byte) api.Entry {
	e.Revoked, e.Revoke = true, sig(v)
	return e
}

// floor is a floor whose signature's bytes are all v.
func floor(n int, v byte) api.Floor { return api.Floor{Floor: n, Sig: sig(v)} }

// state is a table with these rows.
func state(f api.Floor, accepted int, rows ...api.Entry) api.GateState {
	return api.GateState{Floor: f, Accepted: accepted, Rows: rows}
}

// same tells whether two states are the same; nil and empty rows are.
func same(a, b api.GateState) bool {
	return a.Floor == b.Floor && a.Accepted == b.Accepted && slices.Equal(a.Rows, b.Rows)
}

// wantState asks for a state and an error.
func wantState(t *testing.T, what string, got api.GateState, err api.Errno, want api.GateState, wantErr api.Errno) {
	t.Helper()
	if err != wantErr || !same(got, want) {
		t.Errorf("%s: error %d, floor %d, accepted %d, rows %s; want error %d, floor %d, accepted %d, rows %s",
			what, err, got.Floor.Floor, got.Accepted, short(got.Rows), wantErr, want.Floor.Floor, want.Accepted, short(want.Rows))
	}
}

// greaterBytes is the greater of two lists of one length.
func greaterBytes(a, b []byte) []byte {
	for i := range a {
		if a[i] != b[i] {
			if a[i] > b[i] {
				return a
			}
			return b
		}
	}
	return a
}

// modelFlag joins one flag: all signatures whose flag is up, and the greatest of them.
func modelFlag(aUp bool, a api.Sig, bUp bool, b api.Sig) (bool, api.Sig) {
	var out api.Sig
	if aUp {
		out = api.Sig(greaterBytes(out[:], a[:]))
	}
	if bUp {
		out = api.Sig(greaterBytes(out[:], b[:]))
	}
	return aUp || bUp, out
}

// modelJoin is the join by the chapter's words, field by field.
func modelJoin(a, b api.Entry) (api.Entry, api.Errno) {
	x, y := a.Cert, b.Cert
	if x.Serial != y.Serial || x.Rides != y.Rides || x.Price != y.Price || x.Anchor != y.Anchor || x.Sig != y.Sig {
		return api.Entry{}, api.ErrOther
	}
	out := api.Entry{Cert: x, Index: a.Index, Value: a.Value}
	if b.Index > a.Index {
		out.Index, out.Value = b.Index, b.Value
	}
	if a.Index == b.Index {
		out.Value = api.Hash(greaterBytes(a.Value[:], b.Value[:]))
	}
	out.Frozen, out.Freeze = modelFlag(a.Frozen, a.Freeze, b.Frozen, b.Freeze)
	out.Revoked, out.Revoke = modelFlag(a.Revoked, a.Revoke, b.Revoked, b.Revoke)
	return out, api.OK
}

// bySerial is the rows by their serials.
func bySerial(rows []api.Entry) map[int]api.Entry {
	m := map[int]api.Entry{}
	for _, e := range rows {
		m[e.Cert.Serial] = e
	}
	return m
}

// inOrder is the rows that a map holds, by rising serial.
func inOrder(m map[int]api.Entry) []api.Entry {
	var rows []api.Entry
	for _, serial := range slices.Sorted(maps.Keys(m)) {
		rows = append(rows, m[serial])
	}
	return rows
}

// modelPut is what Put must answer.
func modelPut(s api.GateState, rows int, e api.Entry) (api.GateState, bool, api.Errno) {
	m := bySerial(s.Rows)
	row, there := m[e.Cert.Serial]
	if e.Cert.Serial < s.Floor.Floor {
		return s, false, api.ErrFloor
	}
	if !there && len(m) >= rows {
		return s, false, api.ErrRows
	}
	both, err := e, api.OK
	if there {
		both, err = modelJoin(row, e)
	}
	if err != api.OK {
		return s, false, err
	}
	m[e.Cert.Serial] = both
	return state(s.Floor, s.Accepted, inOrder(m)...), !there || both != row, api.OK
}

// modelRaise is what Raise must answer.
func modelRaise(s api.GateState, f api.Floor) (api.GateState, api.Errno) {
	if f.Floor <= s.Floor.Floor {
		return s, api.ErrFloor
	}
	m := bySerial(s.Rows)
	maps.DeleteFunc(m, func(serial int, _ api.Entry) bool { return serial < f.Floor })
	return state(f, s.Accepted, inOrder(m)...), api.OK
}

// modelFloor is the greater of two floors.
func modelFloor(a, b api.Floor) api.Floor {
	switch {
	case a.Floor > b.Floor:
		return a
	case b.Floor > a.Floor:
		return b
	}
	return api.Floor{Floor: a.Floor, Sig: api.Sig(greaterBytes(a.Sig[:], b.Sig[:]))}
}

// modelJoinAll is what JoinAll must answer.
func modelJoinAll(a, b api.GateState) (api.GateState, api.Errno) {
	f := modelFloor(a.Floor, b.Floor)
	m, other := bySerial(a.Rows), bySerial(b.Rows)
	for serial, e := range other {
		row, there := m[serial]
		if serial < f.Floor || !there {
			m[serial] = e
			continue
		}
		both, err := modelJoin(row, e)
		if err != api.OK {
			return api.GateState{}, err
		}
		m[serial] = both
	}
	maps.DeleteFunc(m, func(serial int, _ api.Entry) bool { return serial < f.Floor })
	return state(f, max(a.Accepted, b.Accepted), inOrder(m)...), api.OK
}

// mayBe is an entry without the signatures whose flags are down.
func mayBe(e api.Entry) api.Entry {
	if !e.Frozen {
		e.Freeze = api.Sig{}
	}
	if !e.Revoked {
		e.Revoke = api.Sig{}
	}
	return e
}

// drawSig is one of few signatures: all 0, or another one that differs from it, and from the others, in one byte at an end.
func drawSig(r *rand.Rand) api.Sig {
	var s api.Sig
	s[[]int{0, 63}[r.IntN(2)]] = []byte{0, 1, 200}[r.IntN(3)]
	return s
}

// drawValue is one of few values.
func drawValue(r *rand.Rand) api.Hash {
	var v api.Hash
	v[[]int{0, 31}[r.IntN(2)]] = []byte{0, 1, 200}[r.IntN(3)]
	return v
}

// drawEntry is an entry of a certificate, by chance; two of them are often alike in some of their fields.
func drawEntry(r *rand.Rand, x api.Cert) api.Entry {
	return mayBe(api.Entry{Cert: x, Index: r.IntN(4), Value: drawValue(r), Frozen: r.IntN(2) == 0, Freeze: drawSig(r), Revoked: r.IntN(2) == 0, Revoke: drawSig(r)})
}

// drawState is a state that is made, by chance, with serials from low to high - 1.
func drawState(r *rand.Rand, low, high int) api.GateState {
	s := api.GateState{Accepted: r.IntN(3)}
	if r.IntN(2) == 0 {
		s.Floor = api.Floor{Floor: r.IntN(high), Sig: drawSig(r)}
	}
	if s.Floor.Floor == 0 {
		s.Floor = api.Floor{}
	}
	for serial := max(low, s.Floor.Floor); serial < high; serial++ {
		if r.IntN(2) == 0 {
			s.Rows = append(s.Rows, drawEntry(r, cert(serial)))
		}
	}
	return s
}

// askew is a state with the certificate of one of its rows spoilt, if it has a row.
func askew(r *rand.Rand, s api.GateState) api.GateState {
	s.Rows = slices.Clone(s.Rows)
	if n := len(s.Rows); n > 0 {
		s.Rows[r.IntN(n)].Cert.Price++
	}
	return s
}

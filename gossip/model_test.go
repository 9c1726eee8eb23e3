package gossip_test

import (
	"crypto/sha256"
	"fmt"
	"math"
	"math/rand/v2"
	"slices"
	"strings"
	"sync"
	"testing"

	"farebox/api"
	"farebox/gossip"
	"farebox/ring"
	"farebox/table"
)

var config = api.Config{Gates: 3, Wallets: 1, Rows: 8, Flash: 4096, Serials: 99, Secret: api.Hash{2, 0}}

// plenty is a bound of rows that no table of the tests comes to.
const plenty = 64

// edges are the numbers by the ends of an int and around 0.
var edges = []int{math.MinInt, math.MinInt + 1, -2, -1, 0, 1, 2, math.MaxInt - 1, math.MaxInt}

var keys = sync.OnceValue(func() api.Ring {
	r, err := ring.Make(config)
	if err != api.OK {
		panic(err)
	}
	return r
})

var issuer = sync.OnceValue(func() api.Hash {
	s, ok := ring.Seed(config, 0)
	if !ok {
		panic("no seed")
	}
	return s
})

func chance(n uint64) *rand.Rand { return rand.New(rand.NewPCG(20, n)) }

// Signing and checking take their time, and many tests do the same ones: what came of them is kept.
var seals, checks = map[any]any{}, map[any]api.Errno{}

func seal[T any](x T, by func(api.Hash, T) T) T {
	if _, ok := seals[x]; !ok {
		seals[x] = by(issuer(), x)
	}
	return seals[x].(T)
}

func checked[T any](x T, by func(api.Ring, T) api.Errno) api.Errno {
	if _, ok := checks[x]; !ok {
		checks[x] = by(keys(), x)
	}
	return checks[x]
}

// value is that of an index of a serial's chain of 5 rides, by the library's hash.
func value(serial, index int) api.Hash {
	v := api.Hash{byte(serial), byte(serial >> 8), 20}
	for range 5 - index {
		v = sha256.Sum256(v[:])
	}
	return v
}

// certAt is a certificate of 5 rides, sealed by the issuer.
func certAt(serial int, price int64) api.Cert {
	return seal(api.Cert{Serial: serial, Rides: 5, Price: price, Anchor: value(serial, 0)}, ring.SealCert)
}

// at is an entry of a serial's carnet.
func at(serial, index int) api.Entry {
	return api.Entry{Cert: certAt(serial, 100), Index: index, Value: value(serial, index)}
}

// other is an entry of another certificate of the serial, which is as good.
func other(serial, index int) api.Entry {
	return api.Entry{Cert: certAt(serial, 300), Index: index, Value: value(serial, index)}
}

func frozen(e api.Entry) api.Entry {
	e.Frozen, e.Freeze = true, seal(api.Freeze{Cert: e.Cert}, ring.SealFreeze).Sig
	return e
}

func revoked(e api.Entry) api.Entry {
	e.Revoked, e.Revoke = true, seal(api.Revocation{Cert: e.Cert}, ring.SealRevocation).Sig
	return e
}

// unsigned is an entry with a bit of its certificate's signature turned.
func unsigned(e api.Entry) api.Entry {
	e.Cert.Sig[5] ^= 1
	return e
}

// strayed is an entry whose value does not lead to the anchor.
func strayed(e api.Entry) api.Entry {
	e.Value[5] ^= 1
	return e
}

func floorAt(n int) api.Floor { return seal(api.Floor{Floor: n}, ring.SealFloor) }

// state is a made one: the rows are put in one after the other, then the floor is raised (0: there is none).
func state(t *testing.T, f api.Floor, accepted int, rows ...api.Entry) api.GateState {
	t.Helper()
	s := api.GateState{Accepted: accepted}
	for _, e := range rows {
		next, _, err := table.Put(s, plenty, e)
		if err != api.OK {
			t.Fatalf("table.Put: %d", err)
		}
		s = next
	}
	if f.Floor != 0 {
		next, err := table.Raise(s, f)
		if err != api.OK {
			t.Fatalf("table.Raise: %d", err)
		}
		s = next
	}
	return s
}

// knows is a state with neither floor nor rides.
func knows(t *testing.T, rows ...api.Entry) api.GateState {
	t.Helper()
	return state(t, api.Floor{}, 0, rows...)
}

// short is a summary.
func short(serial, index int, frozen, revoked bool) api.Summary {
	return api.Summary{Serial: serial, Index: index, Frozen: frozen, Revoked: revoked}
}

// told is what somebody has of a serial, by the chapter's words.
func told(serial int, has []api.Summary) (all api.Summary, some bool) {
	for _, x := range has {
		if x.Serial != serial {
			continue
		}
		if !some || x.Index > all.Index {
			all.Index = x.Index
		}
		all.Frozen = all.Frozen || x.Frozen
		all.Revoked = all.Revoked || x.Revoked
		some = true
	}
	return all, some
}

// modelLacks asks each row by itself.
func modelLacks(s api.GateState, has []api.Summary) []api.Entry {
	var out []api.Entry
	for _, row := range s.Rows {
		x, some := told(row.Cert.Serial, has)
		if !some || x.Index < row.Index || row.Frozen && !x.Frozen || row.Revoked && !x.Revoked {
			out = append(out, row)
		}
	}
	return out
}

func modelDigest(s api.GateState) []api.Summary {
	out := make([]api.Summary, len(s.Rows))
	for i, row := range s.Rows {
		out[i].Serial, out[i].Index, out[i].Frozen, out[i].Revoked = row.Cert.Serial, row.Index, row.Frozen, row.Revoked
	}
	return out
}

// modelExchange learns as P19.3 says, under the ring of the tests.
func modelExchange(rows int, s api.GateState, entries []api.Entry) (api.GateState, []api.Errno) {
	var errs []api.Errno
	for _, e := range entries {
		err := checked(e, ring.CheckEntry)
		if err == api.OK {
			var next api.GateState
			if next, _, err = table.Put(s, rows, e); err == api.OK {
				s = next
			}
		}
		errs = append(errs, err)
	}
	return s, errs
}

func checkFloor(r api.Ring, f api.Floor) api.Errno {
	if !ring.CheckFloor(r, f) {
		return api.ErrSign
	}
	return api.OK
}

func modelRounds(rows int, gates []api.GateState, meetings [][2]int) []api.GateState {
	out := slices.Clone(gates)
	for _, m := range meetings {
		a, b := out[m[0]-1], out[m[1]-1]
		if a.Floor.Floor > b.Floor.Floor && checked(a.Floor, checkFloor) == api.OK {
			b, _ = table.Raise(b, a.Floor)
		}
		b, _ = modelExchange(rows, b, modelLacks(a, modelDigest(b)))
		out[m[1]-1] = b
	}
	return out
}

// same tells whether two states are; nil and empty rows are.
func same(a, b api.GateState) bool {
	return a.Floor == b.Floor && a.Accepted == b.Accepted && slices.Equal(a.Rows, b.Rows)
}

// brief tells a state in few words.
func brief(s api.GateState) string {
	text := []string{fmt.Sprintf("floor %d (%d..), accepted %d", s.Floor.Floor, s.Floor.Sig[0], s.Accepted)}
	for _, x := range modelDigest(s) {
		text = append(text, fmt.Sprintf("%v", x))
	}
	return strings.Join(text, ", ")
}

func briefs(list []api.GateState) string {
	var text []string
	for _, s := range list {
		text = append(text, brief(s))
	}
	return strings.Join(text, "; ")
}

func wantState(t *testing.T, what string, got, want api.GateState) {
	t.Helper()
	if !same(got, want) {
		t.Fatalf("%s: %s, want %s", what, brief(got), brief(want))
	}
}

func wantStates(t *testing.T, what string, got, want []api.GateState) {
	t.Helper()
	if !slices.EqualFunc(got, want, same) {
		t.Fatalf("%s: %s, want %s", what, briefs(got), briefs(want))
	}
}

// wantLacks asks for the rows of these serials, and for what the model says.
func wantLacks(t *testing.T, what string, s api.GateState, has []api.Summary, serials ...int) {
	t.Helper()
	got := gossip.Lacks(s, has)
	var list []int
	for _, e := range got {
		list = append(list, e.Cert.Serial)
	}
	if !slices.Equal(list, serials) || !slices.Equal(got, modelLacks(s, has)) {
		t.Errorf("P20.2: %s: the rows %v are lacking, want %v", what, list, serials)
	}
}

// wantExchange asks for these errors, and for what the model says.
func wantExchange(t *testing.T, what string, rows int, s api.GateState, entries []api.Entry, errs ...api.Errno) api.GateState {
	t.Helper()
	got, list := gossip.Exchange(keys(), rows, s, entries)
	want, wantErrs := modelExchange(rows, s, entries)
	if !slices.Equal(list, errs) || !slices.Equal(wantErrs, errs) {
		t.Fatalf("P20.3: %s: %v, want %v (the model: %v)", what, list, errs, wantErrs)
	}
	wantState(t, "P20.3: "+what, got, want)
	return got
}

// wantRounds asks for what the model says.
func wantRounds(t *testing.T, what string, rows int, gates []api.GateState, meetings ...[2]int) []api.GateState {
	t.Helper()
	got, err := gossip.Rounds(keys(), rows, gates, meetings)
	if err != api.OK {
		t.Fatalf("P20.4: %s: %d", what, err)
	}
	wantStates(t, "P20.4: "+what, got, modelRounds(rows, gates, meetings))
	return got
}

package gate_test

import (
	"bytes"
	"crypto/hmac"
	"crypto/sha256"
	"maps"
	"math/rand/v2"
	"slices"
	"sync"
	"testing"

	"farebox/api"
	"farebox/flash"
	"farebox/gate"
	"farebox/journal"
	"farebox/ring"
	"farebox/terms"
)

// config is that of the tests; the gate that is tested is gate 2 of 3, with at most 4 rows.
var config = api.Config{Gates: 3, Wallets: 1, Rows: 4, Flash: 4096, Serials: 9, Secret: api.Hash{1, 9}}

const number = 2

var keys = sync.OnceValue(func() api.Ring {
	r, err := ring.Make(config)
	if err != api.OK {
		panic(err)
	}
	return r
})

func chance(seed uint64) *rand.Rand { return rand.New(rand.NewPCG(19, seed)) }

// seed is a node's, by the library's keyed hash.
func seed(n int) api.Hash {
	h := hmac.New(sha256.New, config.Secret[:])
	h.Write([]byte("node\x00" + u64(uint64(n)) + "\x01"))
	return api.Hash(h.Sum(nil))
}

// steps is what so many steps make of a value, by the library's hash.
func steps(v api.Hash, n int) api.Hash {
	for range n {
		v = sha256.Sum256(v[:])
	}
	return v
}

// value is that of an index of a serial's chain of so many rides.
func value(serial, rides, index int) api.Hash {
	return steps(api.Hash{byte(serial), byte(serial >> 8), byte(rides)}, rides-index)
}

// Signing and checking take their time, and many tests do the same ones: what came of them is kept.
var seals, checks = map[any]any{}, map[any]bool{}

func seal[T any](x T, by func(api.Hash, T) T) T {
	if _, ok := seals[x]; !ok {
		seals[x] = by(seed(0), x)
	}
	return seals[x].(T)
}

func signed[T any](x T, by func(api.Ring, T) bool) bool {
	if _, ok := checks[x]; !ok {
		checks[x] = by(keys(), x)
	}
	return checks[x]
}

// certFor is a certificate of so many rides, sealed by the issuer.
func certFor(serial, rides int, price int64) api.Cert {
	return seal(api.Cert{Serial: serial, Rides: rides, Price: price, Anchor: value(serial, rides, 0)}, ring.SealCert)
}

// cert is one of 5 rides.
func cert(serial int) api.Cert { return certFor(serial, 5, 100) }

func freezeOf(c api.Cert) api.Freeze { return seal(api.Freeze{Cert: c}, ring.SealFreeze) }

func revocationOf(c api.Cert) api.Revocation {
	return seal(api.Revocation{Cert: c}, ring.SealRevocation)
}

func floorAt(n int) api.Floor { return seal(api.Floor{Floor: n}, ring.SealFloor) }

func ticketOf(c api.Cert, index int) api.Ticket {
	return api.Ticket{Cert: c, Index: index, Value: value(c.Serial, c.Rides, index)}
}

// at is an entry of a certificate.
func at(c api.Cert, index int) api.Entry {
	return api.Entry{Cert: c, Index: index, Value: value(c.Serial, c.Rides, index)}
}

func frozen(e api.Entry) api.Entry {
	e.Frozen, e.Freeze = true, freezeOf(e.Cert).Sig
	return e
}

func revoked(e api.Entry) api.Entry {
	e.Revoked, e.Revoke = true, revocationOf(e.Cert).Sig
	return e
}

// known is a state as the model has it.
type known struct {
	floor    api.Floor
	accepted int
	rows     map[int]api.Entry
}

func newKnown(rows ...api.Entry) known {
	k := known{rows: map[int]api.Entry{}}
	for _, e := range rows {
		k.rows[e.Cert.Serial] = e
	}
	return k
}

func (k known) copy() known {
	k.rows = maps.Clone(k.rows)
	return k
}

func (k known) list() []api.Entry {
	var l []api.Entry
	for _, serial := range slices.Sorted(maps.Keys(k.rows)) {
		l = append(l, k.rows[serial])
	}
	return l
}

func (k known) state() api.GateState {
	return api.GateState{Floor: k.floor, Accepted: k.accepted, Rows: k.list()}
}

func (k known) raised(f api.Floor) known {
	k = k.copy()
	k.floor = f
	maps.DeleteFunc(k.rows, func(serial int, _ api.Entry) bool { return serial < f.Floor })
	return k
}

func certInRange(c api.Cert) bool {
	return c.Serial >= 1 && c.Serial <= 65535 && c.Rides >= 1 && c.Rides <= 4096 && c.Price >= 0 && c.Price <= 1000000000
}

// reasons are all reasons for which a ticket is to be refused, each once, in the chapter's order.
func (k known) reasons(bound int, t api.Ticket) []api.Errno {
	row, there := k.rows[t.Cert.Serial]
	inRange := certInRange(t.Cert) && t.Index >= 1 && t.Index <= t.Cert.Rides
	low, from := 0, t.Cert.Anchor
	if there {
		low, from = row.Index, row.Value
	}
	var list []api.Errno
	add := func(err api.Errno, holds bool) {
		if holds {
			list = append(list, err)
		}
	}
	add(api.ErrArg, !inRange)
	add(api.ErrFloor, t.Cert.Serial < k.floor.Floor)
	if !there || row.Cert != t.Cert {
		good := signed(t.Cert, ring.CheckCert)
		add(api.ErrSign, !good)
		add(api.ErrOther, good && there)
	}
	add(api.ErrGone, row.Revoked)
	add(api.ErrFrozen, row.Frozen)
	add(api.ErrIndex, t.Index <= low)
	add(api.ErrChain, t.Index < low || steps(t.Value, min(t.Index-low, 5000)) != from)
	add(api.ErrRows, !there && len(k.rows) >= bound)
	return list
}

func (k known) decide(bound int, t api.Ticket) (known, api.Errno) {
	if why := k.reasons(bound, t); len(why) > 0 {
		return k, why[0]
	}
	k = k.copy()
	row := k.rows[t.Cert.Serial]
	row.Cert, row.Index, row.Value = t.Cert, t.Index, t.Value
	k.rows[t.Cert.Serial] = row
	k.accepted++
	return k, api.OK
}

// put is table.Put, anew.
func (k known) put(bound int, e api.Entry) (known, bool, api.Errno) {
	row, there := k.rows[e.Cert.Serial]
	switch {
	case e.Cert.Serial < k.floor.Floor:
		return k, false, api.ErrFloor
	case there && row.Cert != e.Cert:
		return k, false, api.ErrOther
	case !there && len(k.rows) >= bound:
		return k, false, api.ErrRows
	}
	both := e
	if there {
		both = row
		if e.Index > row.Index || e.Index == row.Index && bytes.Compare(e.Value[:], row.Value[:]) > 0 {
			both.Index, both.Value = e.Index, e.Value
		}
		if e.Frozen && (!row.Frozen || bytes.Compare(e.Freeze[:], row.Freeze[:]) > 0) {
			both.Frozen, both.Freeze = true, e.Freeze
		}
		if e.Revoked && (!row.Revoked || bytes.Compare(e.Revoke[:], row.Revoke[:]) > 0) {
			both.Revoked, both.Revoke = true, e.Revoke
		}
	}
	after := k.copy()
	after.rows[e.Cert.Serial] = both
	return after, !there || both != row, api.OK
}

func (k known) learn(bound int, e api.Entry) (known, bool, api.Errno) {
	var none api.Sig
	switch {
	case !certInRange(e.Cert) || e.Index < 0 || e.Index > e.Cert.Rides || !e.Frozen && e.Freeze != none || !e.Revoked && e.Revoke != none:
		return k, false, api.ErrArg
	case !signed(e.Cert, ring.CheckCert):
		return k, false, api.ErrSign
	case e.Frozen && !signed(api.Freeze{Cert: e.Cert, Sig: e.Freeze}, ring.CheckFreeze):
		return k, false, api.ErrSign
	case e.Revoked && !signed(api.Revocation{Cert: e.Cert, Sig: e.Revoke}, ring.CheckRevocation):
		return k, false, api.ErrSign
	case steps(e.Value, e.Index) != e.Cert.Anchor:
		return k, false, api.ErrChain
	}
	return k.put(bound, e)
}

func (k known) freeze(bound int, f api.Freeze) (known, bool, api.Errno) {
	switch {
	case !certInRange(f.Cert):
		return k, false, api.ErrArg
	case !signed(f.Cert, ring.CheckCert) || !signed(f, ring.CheckFreeze):
		return k, false, api.ErrSign
	}
	return k.put(bound, api.Entry{Cert: f.Cert, Value: f.Cert.Anchor, Frozen: true, Freeze: f.Sig})
}

func (k known) revoke(bound int, v api.Revocation) (known, bool, api.Errno) {
	switch {
	case !certInRange(v.Cert):
		return k, false, api.ErrArg
	case !signed(v.Cert, ring.CheckCert) || !signed(v, ring.CheckRevocation):
		return k, false, api.ErrSign
	}
	return k.put(bound, api.Entry{Cert: v.Cert, Value: v.Cert.Anchor, Revoked: true, Revoke: v.Sig})
}

func (k known) raise(f api.Floor) (known, bool, api.Errno) {
	switch {
	case f.Floor < 1 || f.Floor > 65536:
		return k, false, api.ErrArg
	case !signed(f, ring.CheckFloor):
		return k, false, api.ErrSign
	case f.Floor == k.floor.Floor:
		return k, false, api.OK
	case f.Floor < k.floor.Floor:
		return k, false, api.ErrFloor
	}
	return k.raised(f), true, api.OK
}

// model is what the chapters say of a gate and its journal.
type model struct {
	known
	size     int
	epoch    uint64
	snapshot string
	records  []string
}

func newModel(size int) *model {
	return &model{known: newKnown(), size: size, epoch: 1, snapshot: blank}
}

// room is how many bytes the journal's bank still takes.
func (m *model) room() int {
	used := 22 + len(m.snapshot)
	for _, r := range m.records {
		used += 10 + len(r)
	}
	return m.size - used
}

// lay lays the record of a change down.
func (m *model) lay(changed bool, after known, record string) api.Errno {
	if !changed {
		return api.OK
	}
	now := snapshot(m.known)
	switch {
	case 10+len(record) <= m.room():
		m.records = append(slices.Clip(m.records), record)
	case m.epoch == lastEpoch || 22+len(now)+10+len(record) > m.size:
		return api.ErrRoom
	default:
		m.epoch, m.snapshot, m.records = m.epoch+1, now, []string{record}
	}
	m.known = after
	return api.OK
}

func refusal(err api.Errno) api.Answer { return api.Answer{Err: err} }

// read is a term of a body.
func read[T any](body []byte, decode func([]byte) (T, api.Errno), then func(T) api.Answer) api.Answer {
	x, err := decode(body)
	if err != api.OK {
		return refusal(err)
	}
	return then(x)
}

func (m *model) take(body []byte) api.Answer {
	domain, err := terms.Domain(body)
	switch {
	case err != api.OK:
		return refusal(err)
	case domain == api.DomainTicket:
		return read(body, terms.DecodeTicket, m.takeTicket)
	case domain == api.DomainEntry:
		return read(body, terms.DecodeEntry, m.takeEntry)
	case domain == api.DomainFreeze:
		return read(body, terms.DecodeFreeze, m.takeFreeze)
	case domain == api.DomainRevoke:
		return read(body, terms.DecodeRevocation, m.takeRevocation)
	case domain == api.DomainFloor:
		return read(body, terms.DecodeFloor, m.takeFloor)
	}
	return refusal(api.ErrDomain)
}

// done is the answer behind a change of a serial's row.
func (m *model) done(after known, changed bool, err api.Errno, kind string, serial int, nums ...int64) api.Answer {
	if err == api.OK {
		err = m.lay(changed, after, kind+tellEntry(after.rows[serial]))
	}
	if err != api.OK {
		return refusal(err)
	}
	return api.Answer{Nums: append([]int64{int64(serial)}, nums...)}
}

func (m *model) takeTicket(t api.Ticket) api.Answer {
	after, err := m.decide(config.Rows, t)
	return m.done(after, true, err, "\x01", t.Cert.Serial, int64(t.Index))
}

func (m *model) takeEntry(e api.Entry) api.Answer {
	after, changed, err := m.learn(config.Rows, e)
	flag := int64(0)
	if changed {
		flag = 1
	}
	return m.done(after, changed, err, "\x02", e.Cert.Serial, int64(after.rows[e.Cert.Serial].Index), flag)
}

func (m *model) takeFreeze(f api.Freeze) api.Answer {
	after, changed, err := m.freeze(config.Rows, f)
	row := after.rows[f.Cert.Serial]
	a := m.done(after, changed, err, "\x02", f.Cert.Serial, int64(row.Index))
	if a.Err == api.OK {
		a.Out = []api.Message{{From: number, To: 0, Body: ackOf(f.Cert.Serial, row.Index, row.Value)}}
	}
	return a
}

func (m *model) takeRevocation(v api.Revocation) api.Answer {
	after, changed, err := m.revoke(config.Rows, v)
	return m.done(after, changed, err, "\x02", v.Cert.Serial)
}

func (m *model) takeFloor(f api.Floor) api.Answer {
	after, changed, err := m.raise(f)
	if err == api.OK {
		err = m.lay(changed, after, floorOf(f))
	}
	if err != api.OK {
		return refusal(err)
	}
	return api.Answer{Nums: []int64{int64(after.floor.Floor)}}
}

// ackOf is the acknowledgement of the gate that is tested.
func ackOf(serial, index int, v api.Hash) []byte {
	x := api.Ack{Serial: serial, Gate: number, Index: index, Value: v}
	if _, ok := seals[x]; !ok {
		seals[x] = ring.SealAck(seed(number), x)
	}
	return []byte(told(terms.EncodeAck, seals[x].(api.Ack)))
}

// send is what is told to another gate; has is nil where all is.
func (m *model) send(to int, all bool, has []api.Summary) api.Answer {
	if to < 1 || to > config.Gates || to == number {
		return refusal(api.ErrArg)
	}
	var out []api.Message
	tell := func(body string) { out = append(out, api.Message{From: number, To: to, Body: []byte(body)}) }
	if m.floor.Floor != 0 {
		tell(tellFloor(m.floor))
	}
	for _, e := range m.list() {
		if all || lacking(e, has) {
			tell(tellEntry(e))
		}
	}
	return api.Answer{Nums: []int64{int64(len(out))}, Out: out}
}

// lacking asks each thing of an entry by itself.
func lacking(e api.Entry, has []api.Summary) bool {
	any := func(is func(x api.Summary) bool) bool {
		return slices.ContainsFunc(has, func(x api.Summary) bool { return x.Serial == e.Cert.Serial && is(x) })
	}
	switch {
	case !any(func(x api.Summary) bool { return x.Index >= e.Index }):
		return true
	case e.Frozen && !any(func(x api.Summary) bool { return x.Frozen }):
		return true
	}
	return e.Revoked && !any(func(x api.Summary) bool { return x.Revoked })
}

// pair is a gate on its flash, and the model beside it.
type pair struct {
	t *testing.T
	f *flash.Flash
	g *gate.Gate
	m *model
}

func begin(t *testing.T, size int) *pair {
	t.Helper()
	p := &pair{t: t, f: flash.New(size), m: newModel(size)}
	p.g = open(t, p.f)
	return p
}

// resume is a pair over a journal that tells this.
func resume(t *testing.T, size int, epoch uint64, snapshot string, records ...string) *pair {
	t.Helper()
	k, ok := readState(snapshot)
	for _, r := range records {
		if ok {
			k, ok = playOn(k, config.Rows, r)
		}
	}
	b := bank(epoch, snapshot, records...)
	if !ok || len(b) > size {
		t.Fatalf("no gate's journal: %d bytes, %d rows", len(b), len(k.rows))
	}
	p := &pair{t: t, f: flash.Load(size, b, nil), m: &model{known: k, size: size, epoch: epoch, snapshot: snapshot, records: records}}
	p.g = open(t, p.f)
	p.wantAll("P19.6: Open")
	return p
}

func open(t *testing.T, f *flash.Flash) *gate.Gate {
	t.Helper()
	g, err := gate.Open(config, keys(), number, f)
	if g == nil || err != api.OK {
		t.Fatalf("P19.6: Open = %v, %d", g, err)
	}
	return g
}

// take is made of both, which must answer the same; then the flash must hold what the model says.
func (p *pair) take(body string) api.Answer {
	p.t.Helper()
	got, want := p.g.Take([]byte(body)), p.m.take([]byte(body))
	if !sameAnswer(got, want) {
		p.t.Fatalf("P19.7: Take = %+v, want %+v", got, want)
	}
	p.wantAll("P19.7: Take")
	return got
}

func (p *pair) ticket(c api.Cert, index int) api.Answer {
	p.t.Helper()
	return p.take(tellTicket(ticketOf(c, index)))
}

func (p *pair) entry(e api.Entry) api.Answer {
	p.t.Helper()
	return p.take(tellEntry(e))
}

func (p *pair) freeze(c api.Cert) api.Answer {
	p.t.Helper()
	return p.take(tellFreeze(freezeOf(c)))
}

func (p *pair) revoke(c api.Cert) api.Answer {
	p.t.Helper()
	return p.take(tellRevocation(revocationOf(c)))
}

func (p *pair) floor(n int) api.Answer {
	p.t.Helper()
	return p.take(tellFloor(floorAt(n)))
}

func (p *pair) send(to int) api.Answer {
	p.t.Helper()
	return p.sent("P19.8: Send", p.g.Send(to), p.m.send(to, true, nil))
}

func (p *pair) sendLacking(to int, has ...api.Summary) api.Answer {
	p.t.Helper()
	return p.sent("P19.8: SendLacking", p.g.SendLacking(to, has), p.m.send(to, false, has))
}

func (p *pair) sent(what string, got, want api.Answer) api.Answer {
	p.t.Helper()
	if !sameAnswer(got, want) {
		p.t.Fatalf("%s = %+v, want %+v", what, got, want)
	}
	return got
}

// wantAll asks the gate's state and the flash's.
func (p *pair) wantAll(what string) {
	p.t.Helper()
	wantState(p.t, what, p.g.State(), p.m.state())
	first, second := p.f.Files()
	if _, found, err := journal.Open(flash.Load(p.m.size, first, second)); err != api.OK || uint64(found.Epoch) != p.m.epoch || string(found.Snapshot) != p.m.snapshot || !slices.EqualFunc(found.Records, p.m.records, func(a []byte, b string) bool { return string(a) == b }) {
		p.t.Fatalf("%s: the flash holds epoch %d, %x, records %x (%d), want %d, %x, %x", what, found.Epoch, found.Snapshot, found.Records, err, p.m.epoch, p.m.snapshot, p.m.records)
	}
}

// wantErr asks the reason of an answer that was had of both.
func (p *pair) wantErr(what string, got api.Answer, want api.Errno) {
	p.t.Helper()
	if got.Err != want {
		p.t.Errorf("%s: %d, want %d", what, got.Err, want)
	}
}

// wantNums asks for an answer of these numbers.
func (p *pair) wantNums(what string, got api.Answer, nums ...int64) {
	p.t.Helper()
	if got.Err != api.OK || !slices.Equal(got.Nums, nums) {
		p.t.Errorf("%s: %d %v, want %v", what, got.Err, got.Nums, nums)
	}
}

// unwritten asks that a call writes nothing.
func (p *pair) unwritten(what string, call func()) {
	p.t.Helper()
	writes := p.f.Writes()
	call()
	if p.f.Writes() != writes {
		p.t.Errorf("%s has made %d writes", what, p.f.Writes()-writes)
	}
}

func sameAnswer(a, b api.Answer) bool {
	return a.Err == b.Err && slices.Equal(a.Nums, b.Nums) && slices.EqualFunc(a.Out, b.Out, func(x, y api.Message) bool {
		return x.ID == y.ID && x.From == y.From && x.To == y.To && string(x.Body) == string(y.Body)
	})
}

func sameState(a, b api.GateState) bool {
	return a.Floor == b.Floor && a.Accepted == b.Accepted && slices.Equal(a.Rows, b.Rows)
}

func wantState(t *testing.T, what string, got, want api.GateState) {
	t.Helper()
	if !sameState(got, want) {
		t.Fatalf("%s: P19.9: the state is %+v, want %+v", what, got, want)
	}
}

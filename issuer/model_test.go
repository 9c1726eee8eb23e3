package issuer_test

import (
	"crypto/sha256"
	"math/rand/v2"
	"slices"
	"sync"
	"testing"

	"farebox/api"
	"farebox/flash"
	"farebox/issuer"
	"farebox/journal"
	"farebox/ledger"
	"farebox/ring"
	"farebox/terms"
)

// config is that of the tests: gates 1 to 3, the wallets' nodes 4 and 5.
var config = api.Config{Gates: 3, Wallets: 2, Rows: 4, Flash: 4096, Serials: 6, Secret: api.Hash{2, 3}}

var keys = sync.OnceValue(func() api.Ring {
	r, err := ring.Make(config)
	if err != api.OK {
		panic(err)
	}
	return r
})

func chance(seed uint64) *rand.Rand { return rand.New(rand.NewPCG(23, seed)) }

// steps is what so many steps make of a value, by the library's hash.
func steps(v api.Hash, n int) api.Hash {
	for range n {
		v = sha256.Sum256(v[:])
	}
	return v
}

// value is that of an index of the chain number k of so many rides.
func value(k, rides, index int) api.Hash {
	return steps(api.Hash{byte(k), byte(k >> 8), 23}, rides-index)
}

// anchor is that of three rides.
func anchor(k int) api.Hash { return value(k, 3, 0) }

// order is that of three rides of chain k.
func order(k int, price int64) string { return tellOrder(3, price, anchor(k)) }

// after is what an operation comes to: the state behind it, its record ("": nothing changes), and the answer.
type after struct {
	s      api.IssuerState
	record string
	a      api.Answer
}

func refusal(err api.Errno) api.Answer { return api.Answer{Err: err} }

func refused(s api.IssuerState, err api.Errno) after { return after{s, "", refusal(err)} }

func copyState(s api.IssuerState) api.IssuerState {
	s.Carnets = slices.Clone(s.Carnets)
	for i := range s.Carnets {
		s.Carnets[i].Refund.Acked = slices.Clone(s.Carnets[i].Refund.Acked)
	}
	s.Leaves = slices.Clone(s.Leaves)
	return s
}

// with is a copy of a state in which the carnet of a serial is this one; every message is logged.
func with(s api.IssuerState, c api.Carnet, logged ...string) api.IssuerState {
	s = copyState(s)
	if c.Cert.Serial > len(s.Carnets) {
		s.Carnets = append(s.Carnets, c)
	} else {
		s.Carnets[c.Cert.Serial-1] = c
	}
	for _, m := range logged {
		s.Leaves = append(s.Leaves, leafOf(m))
	}
	return s
}

func issued(s api.IssuerState, serial int) bool { return serial >= 1 && serial <= len(s.Carnets) }

func mail(to int, body string) api.Message { return api.Message{To: to, Body: []byte(body)} }

func toGates(c api.Config, n int, body string) api.Answer {
	a := api.Answer{Nums: []int64{int64(n)}}
	for gate := range c.Gates {
		a.Out = append(a.Out, mail(gate+1, body))
	}
	return a
}

func isWallet(c api.Config, node int) bool { return node > c.Gates && node <= c.Gates+c.Wallets }

func full(s api.IssuerState) bool { return len(s.Leaves) == 65536 }

func modelOrder(c api.Config, s api.IssuerState, from int, x api.Order) after {
	to, owner := -1, 0
	if isWallet(c, from) {
		to, owner = from, from
	}
	answer := func(cert api.Cert) api.Answer {
		return api.Answer{Nums: []int64{int64(cert.Serial)}, Out: []api.Message{mail(to, tellCert(cert))}}
	}
	for _, y := range s.Carnets {
		if y.Cert.Anchor != x.Anchor {
			continue
		}
		if y.Cert.Rides != x.Rides || y.Cert.Price != x.Price {
			return refused(s, api.ErrAnchor)
		}
		return after{s, "", answer(y.Cert)}
	}
	if len(s.Carnets) >= c.Serials {
		return refused(s, api.ErrSerial)
	}
	if len(s.Carnets)+1 < s.Floor.Floor {
		return refused(s, api.ErrFloor)
	}
	book, err := ledger.Sell(s.Book, x.Rides, x.Price)
	if err != api.OK {
		return refused(s, err)
	}
	if full(s) {
		return refused(s, api.ErrRange)
	}
	cert := sealed(api.Cert{Serial: len(s.Carnets) + 1, Rides: x.Rides, Price: x.Price, Anchor: x.Anchor})
	next := with(s, api.Carnet{Owner: owner, Cert: cert, Status: 1}, tellCert(cert))
	next.Book = book
	return after{next, orderRecord(owner, tellOrder(x.Rides, x.Price, x.Anchor)), answer(cert)}
}

// ackIsSigned asks the signature of an acknowledgement, which is the one that the gate's key makes or none.
func ackIsSigned(c api.Config, x api.Ack) bool {
	if x.Gate > c.Gates {
		return false
	}
	good := tellAck(x.Gate, x)
	return good[len(good)-64:] == string(x.Sig[:])
}

func modelAck(c api.Config, s api.IssuerState, x api.Ack) after {
	if !issued(s, x.Serial) {
		return refused(s, api.ErrSerial)
	}
	if !ackIsSigned(c, x) {
		return refused(s, api.ErrSign)
	}
	y := copyState(s).Carnets[x.Serial-1]
	if y.Status != 2 {
		return refused(s, api.ErrStatus)
	}
	if x.Index > y.Cert.Rides {
		return refused(s, api.ErrAcked)
	}
	if steps(x.Value, x.Index) != y.Cert.Anchor {
		return refused(s, api.ErrChain)
	}
	if x.Gate > len(y.Refund.Acked) || x.Index > y.Refund.Rides {
		return refused(s, api.ErrAcked)
	}
	record := ackRecord(tellAck(x.Gate, x))
	if y.Refund.Acked[x.Gate-1] && x.Index <= y.Refund.Top {
		record = ""
	}
	y.Refund.Acked[x.Gate-1] = true
	y.Refund.Top = max(y.Refund.Top, x.Index)
	return after{with(s, y), record, api.Answer{Nums: []int64{int64(x.Serial), int64(y.Refund.Top), int64(missing(y.Refund))}}}
}

// missing is how many gates have not acknowledged.
func missing(x api.Refund) int {
	n := 0
	for _, is := range x.Acked {
		if !is {
			n++
		}
	}
	return n
}

func modelFreeze(c api.Config, s api.IssuerState, serial int) after {
	if !issued(s, serial) {
		return refused(s, api.ErrSerial)
	}
	if serial < s.Floor.Floor {
		return refused(s, api.ErrFloor)
	}
	y := s.Carnets[serial-1]
	if y.Status > 2 {
		return refused(s, api.ErrStatus)
	}
	answer := toGates(c, serial, tellFreeze(y.Cert))
	if y.Status == 2 {
		return after{s, "", answer}
	}
	y.Status, y.Refund = 2, api.Refund{Serial: serial, Rides: y.Cert.Rides, Acked: make([]bool, c.Gates)}
	return after{with(s, y), numberRecord(3, serial), answer}
}

func modelPay(c api.Config, s api.IssuerState, serial int) after {
	if !issued(s, serial) {
		return refused(s, api.ErrSerial)
	}
	y := s.Carnets[serial-1]
	if y.Status != 2 {
		return refused(s, api.ErrStatus)
	}
	if missing(y.Refund) > 0 {
		return refused(s, api.ErrOpen)
	}
	back := y.Refund.Rides - y.Refund.Top
	book, err := ledger.Refund(s.Book, y.Cert.Rides, back, y.Cert.Price)
	if err != api.OK {
		return refused(s, err)
	}
	if full(s) {
		return refused(s, api.ErrRange)
	}
	y.Status, y.Paid = 3, int64(back)*y.Cert.Price
	receipt := tellReceipt(serial, back, y.Paid)
	next := with(s, y, receipt)
	next.Book = book
	answer := api.Answer{Nums: []int64{int64(back), y.Paid}}
	if y.Owner != 0 {
		answer.Out = []api.Message{mail(y.Owner, receipt)}
	}
	return after{next, numberRecord(4, serial), answer}
}

func modelRevoke(c api.Config, s api.IssuerState, serial int) after {
	if !issued(s, serial) {
		return refused(s, api.ErrSerial)
	}
	y := s.Carnets[serial-1]
	if y.Status == 3 {
		return refused(s, api.ErrStatus)
	}
	told := tellRevocation(y.Cert)
	if y.Status == 4 {
		return after{s, "", toGates(c, serial, told)}
	}
	book, err := ledger.Retire(s.Book, y.Cert.Rides, y.Cert.Price)
	if err != api.OK {
		return refused(s, err)
	}
	if full(s) {
		return refused(s, api.ErrRange)
	}
	y.Status = 4
	next := with(s, y, told)
	next.Book = book
	return after{next, numberRecord(5, serial), toGates(c, serial, told)}
}

func modelRaise(c api.Config, s api.IssuerState, floor int) after {
	if floor < 1 || floor > c.Serials+1 {
		return refused(s, api.ErrArg)
	}
	if floor < s.Floor.Floor {
		return refused(s, api.ErrFloor)
	}
	if floor == s.Floor.Floor {
		return after{s, "", toGates(c, floor, tellFloor(s.Floor))}
	}
	next := copyState(s)
	for i := range next.Carnets {
		if y := &next.Carnets[i]; i+1 < floor && y.Status == 1 {
			y.Status = 4
			var err api.Errno
			if next.Book, err = ledger.Retire(next.Book, y.Cert.Rides, y.Cert.Price); err != api.OK {
				return refused(s, err)
			}
		}
	}
	if full(s) {
		return refused(s, api.ErrRange)
	}
	next.Floor = floorOf(floor)
	next.Leaves = append(next.Leaves, leafOf(tellFloor(next.Floor)))
	return after{next, numberRecord(6, floor), toGates(c, floor, tellFloor(next.Floor))}
}

func modelTake(c api.Config, s api.IssuerState, from int, body []byte) after {
	switch domain, err := terms.Domain(body); {
	case err != api.OK:
		return refused(s, err)
	case domain == 9:
		x, err := terms.DecodeOrder(body)
		if err != api.OK {
			return refused(s, err)
		}
		return modelOrder(c, s, from, x)
	case domain == 5:
		x, err := terms.DecodeAck(body)
		if err != api.OK {
			return refused(s, err)
		}
		return modelAck(c, s, x)
	}
	return refused(s, api.ErrDomain)
}

// op is an operation, of an Issuer and of the model.
type op struct {
	name  string
	real  func(i *issuer.Issuer) api.Answer
	model func(c api.Config, s api.IssuerState) after
}

func taking(from int, body string) op {
	return op{"Take",
		func(i *issuer.Issuer) api.Answer { return i.Take(from, []byte(body)) },
		func(c api.Config, s api.IssuerState) after { return modelTake(c, s, from, []byte(body)) }}
}

func freezing(n int) op {
	return op{"Freeze",
		func(i *issuer.Issuer) api.Answer { return i.Freeze(n) },
		func(c api.Config, s api.IssuerState) after { return modelFreeze(c, s, n) }}
}

func paying(n int) op {
	return op{"Pay",
		func(i *issuer.Issuer) api.Answer { return i.Pay(n) },
		func(c api.Config, s api.IssuerState) after { return modelPay(c, s, n) }}
}

func revoking(n int) op {
	return op{"Revoke",
		func(i *issuer.Issuer) api.Answer { return i.Revoke(n) },
		func(c api.Config, s api.IssuerState) after { return modelRevoke(c, s, n) }}
}

func raising(n int) op {
	return op{"Raise",
		func(i *issuer.Issuer) api.Answer { return i.Raise(n) },
		func(c api.Config, s api.IssuerState) after { return modelRaise(c, s, n) }}
}

// model is what the chapters say of an issuer and its journal.
type model struct {
	c        api.Config
	s        api.IssuerState
	size     int
	epoch    uint64
	snapshot string
	records  []string
}

// room is how many bytes the journal's bank still takes.
func (m *model) room() int {
	used := 22 + len(m.snapshot)
	for _, r := range m.records {
		used += 10 + len(r)
	}
	return m.size - used
}

// do is an operation: its record is laid down first.
func (m *model) do(o op) api.Answer {
	x := o.model(m.c, m.s)
	if x.a.Err != api.OK || x.record == "" {
		return x.a
	}
	now := snapshot(m.s)
	switch {
	case 10+len(x.record) <= m.room():
		m.records = append(slices.Clip(m.records), x.record)
	case m.epoch == lastEpoch || 22+len(now)+10+len(x.record) > m.size || len(now) > api.MaxPayload-12:
		return refusal(api.ErrRoom)
	default:
		m.epoch, m.snapshot, m.records = m.epoch+1, now, []string{x.record}
	}
	m.s = x.s
	return x.a
}

// pair is an issuer on its flash, and the model beside it.
type pair struct {
	t *testing.T
	f *flash.Flash
	i *issuer.Issuer
	m *model
}

// begin is a pair on a blank flash.
func begin(t *testing.T, c api.Config) *pair {
	t.Helper()
	p := &pair{t: t, f: flash.New(c.Flash), m: &model{c: c, size: c.Flash, epoch: 1, snapshot: blank}}
	p.open()
	return p
}

// resume is a pair over a journal of one snapshot, in banks of so many bytes.
func resume(t *testing.T, c api.Config, size int, epoch uint64, snap string) *pair {
	t.Helper()
	s, ok := readState(snap)
	b := bank(epoch, snap)
	if !ok || len(b) > size {
		t.Fatalf("no issuer's snapshot, of %d bytes", len(b))
	}
	p := &pair{t: t, f: flash.Load(size, b, nil), m: &model{c: c, s: s, size: size, epoch: epoch, snapshot: snap}}
	p.open()
	return p
}

// stand is a pair with this state, and room.
func stand(t *testing.T, s api.IssuerState) *pair {
	t.Helper()
	return resume(t, config, 8192, 1, snapshot(s))
}

// open opens the issuer, again or for the first time; what is there must be what the model says.
func (p *pair) open() {
	p.t.Helper()
	i, err := issuer.Open(p.m.c, keysOf(p.m.c), p.f)
	if i == nil || err != api.OK {
		p.t.Fatalf("P23.9: Open = %v, %d", i, err)
	}
	p.i = i
	p.wantAll("P23.9: Open")
}

// keysOf is the ring of a configuration.
func keysOf(c api.Config) api.Ring {
	if c.Gates == config.Gates && c.Secret == config.Secret {
		return keys()
	}
	r, _ := ring.Make(c)
	return r
}

// do is made of both, which must answer the same; then the state and the flash must be what the model says.
func (p *pair) do(o op) api.Answer {
	p.t.Helper()
	got, want := o.real(p.i), p.m.do(o)
	if !sameAnswer(got, want) {
		p.t.Fatalf("%s = %+v, want %+v", o.name, got, want)
	}
	p.wantAll(o.name)
	return got
}

// want asks an operation's reason and, beside OK, its numbers.
func (p *pair) want(o op, err api.Errno, nums ...int64) api.Answer {
	p.t.Helper()
	a := p.do(o)
	if a.Err != err || !slices.Equal(a.Nums, nums) {
		p.t.Errorf("%s = %d %v, want %d %v", o.name, a.Err, a.Nums, err, nums)
	}
	return a
}

// unwritten asks an operation that writes nothing, and changes nothing.
func (p *pair) unwritten(o op, err api.Errno, nums ...int64) api.Answer {
	p.t.Helper()
	writes, was := p.f.Writes(), p.m.s
	a := p.want(o, err, nums...)
	if p.f.Writes() != writes || !sameState(p.m.s, was) {
		p.t.Errorf("P23.8: %s = %d %v has made %d writes", o.name, a.Err, a.Nums, p.f.Writes()-writes)
	}
	return a
}

// wantAll asks the issuer's state and the flash's.
func (p *pair) wantAll(what string) {
	p.t.Helper()
	wantState(p.t, what, p.i.State(), p.m.s)
	first, second := p.f.Files()
	_, found, err := journal.Open(flash.Load(p.m.size, first, second))
	if err != api.OK || uint64(found.Epoch) != p.m.epoch || string(found.Snapshot) != p.m.snapshot || !slices.EqualFunc(found.Records, p.m.records, func(a []byte, b string) bool { return string(a) == b }) {
		p.t.Fatalf("%s: P23.10: the flash holds epoch %d, %x, records %x (%d), want %d, %x, %x", what, found.Epoch, found.Snapshot, found.Records, err, p.m.epoch, p.m.snapshot, p.m.records)
	}
}

// ack is gate's acknowledgement of a serial of three rides, whose chain is k.
func ack(gate, serial, k, index int) op { return ackOf(gate, serial, k, 3, index) }

// ackOf is that of a serial of so many rides.
func ackOf(gate, serial, k, rides, index int) op {
	return taking(gate, tellAck(gate, api.Ack{Serial: serial, Gate: gate, Index: index, Value: value(k, rides, index)}))
}

func sameAnswer(a, b api.Answer) bool {
	return a.Err == b.Err && slices.Equal(a.Nums, b.Nums) && slices.EqualFunc(a.Out, b.Out, func(x, y api.Message) bool {
		return x.ID == y.ID && x.From == y.From && x.To == y.To && string(x.Body) == string(y.Body)
	})
}

func sameCarnet(a, b api.Carnet) bool {
	return a.Owner == b.Owner && a.Cert == b.Cert && a.Status == b.Status && a.Paid == b.Paid && sameRefund(a.Refund, b.Refund)
}

func sameRefund(a, b api.Refund) bool {
	return a.Serial == b.Serial && a.Rides == b.Rides && slices.Equal(a.Acked, b.Acked) && a.Top == b.Top
}

func sameState(a, b api.IssuerState) bool {
	return a.Floor == b.Floor && a.Book == b.Book && slices.EqualFunc(a.Carnets, b.Carnets, sameCarnet) && slices.Equal(a.Leaves, b.Leaves)
}

func wantState(t *testing.T, what string, got, want api.IssuerState) {
	t.Helper()
	if !sameState(got, want) {
		t.Fatalf("%s: P23.11: the state is %+v, want %+v", what, got, want)
	}
}

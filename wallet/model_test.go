package wallet_test

import (
	"crypto/hmac"
	"crypto/sha256"
	"math/rand/v2"
	"slices"
	"sync"
	"testing"

	"farebox/api"
	"farebox/flash"
	"farebox/journal"
	"farebox/ring"
	"farebox/terms"
	"farebox/wallet"
)

// config is the chapter's, but with three wallets; the one that is tested is wallet 2, which is node 4.
var config = api.Config{Gates: 2, Wallets: 3, Rows: 4, Flash: 4096, Serials: 9, Secret: api.Hash{7, 1, 8}}

const (
	number = 2
	node   = 4
)

var keys = sync.OnceValue(func() api.Ring {
	r, err := ring.Make(config)
	if err != api.OK {
		panic(err)
	}
	return r
})

func chance(seed uint64) *rand.Rand { return rand.New(rand.NewPCG(18, seed)) }

// derived is a secret drawn from another one, by the library's keyed hash.
func derived(secret api.Hash, label string, n int) api.Hash {
	h := hmac.New(sha256.New, secret[:])
	h.Write([]byte(label + "\x00" + u64(uint64(n)) + "\x01"))
	return api.Hash(h.Sum(nil))
}

// seed is a node's.
func seed(n int) api.Hash { return derived(config.Secret, "node", n) }

// value is that of an index of the chain of purse k of a node, by the library's hash.
func value(n, k, rides, index int) api.Hash {
	v := derived(seed(n), "chain", k)
	for range rides - index {
		v = sha256.Sum256(v[:])
	}
	return v
}

// sealed holds the certificates that were sealed: many tests begin with the same ones, and signing takes its time.
var sealed = map[api.Cert]api.Cert{}

// certFor is a certificate for an order of purse k of the wallet that is tested, sealed by the issuer.
func certFor(serial, k, rides int, price int64) api.Cert {
	x := api.Cert{Serial: serial, Rides: rides, Price: price, Anchor: value(node, k, rides, 0)}
	if _, ok := sealed[x]; !ok {
		sealed[x] = ring.SealCert(seed(0), x)
	}
	return sealed[x]
}

func receiptFor(serial, rides int, amount int64) api.Receipt {
	return ring.SealReceipt(seed(0), api.Receipt{Serial: serial, Rides: rides, Amount: amount})
}

// model is what the chapters say of a wallet and its journal.
type model struct {
	purses   []api.Purse
	size     int
	epoch    uint64
	snapshot string
	records  []string
}

func newModel(size int) *model { return &model{size: size, epoch: 1, snapshot: "\x00"} }

// room is how many bytes the journal's bank still takes.
func (m *model) room() int {
	used := 22 + len(m.snapshot)
	for _, r := range m.records {
		used += 10 + len(r)
	}
	return m.size - used
}

// lay lays a record down.
func (m *model) lay(record string) api.Errno {
	told := snapshot(m.purses)
	switch {
	case 10+len(record) <= m.room():
		m.records = append(m.records, record)
	case 12+len(told) > api.MaxPayload:
		return api.ErrRoom
	case m.epoch == lastEpoch:
		return api.ErrRange
	case 22+len(told)+10+len(record) > m.size:
		return api.ErrRoom
	default:
		m.epoch, m.snapshot, m.records = m.epoch+1, told, []string{record}
	}
	m.purses, _ = playOn(m.purses, record)
	return api.OK
}

// done is the answer behind a record that was to be laid down.
func done(err api.Errno, a api.Answer) api.Answer {
	if err != api.OK {
		return api.Answer{Err: err}
	}
	return a
}

func send(to int, body []byte) []api.Message { return []api.Message{{From: node, To: to, Body: body}} }

func (m *model) buy(rides int, price int64) api.Answer {
	if price < 0 || !orderable(rides, uint64(price)) {
		return api.Answer{Err: api.ErrArg}
	}
	err := m.lay(orderOf(uint32(rides), uint64(price)))
	k := len(m.purses)
	body, _ := terms.EncodeOrder(api.Order{Rides: rides, Price: price, Anchor: value(node, k, rides, 0)})
	return done(err, api.Answer{Nums: []int64{int64(k)}, Out: send(0, body)})
}

func (m *model) ride(serial, gate int) api.Answer {
	p := carnet(m.purses, serial)
	switch {
	case p == nil:
		return api.Answer{Err: api.ErrPurse}
	case gate < 1 || gate > config.Gates:
		return api.Answer{Err: api.ErrArg}
	case p.Revealed == p.Rides || p.Refund.Serial != 0:
		return api.Answer{Err: api.ErrSpent}
	}
	err := m.lay(rideOf(uint32(serial)))
	now := *carnet(m.purses, serial)
	body, _ := terms.EncodeTicket(api.Ticket{Cert: now.Cert, Index: now.Revealed, Value: value(node, now.Chain, now.Rides, now.Revealed)})
	return done(err, api.Answer{Nums: []int64{int64(serial), int64(now.Revealed)}, Out: send(gate, body)})
}

func (m *model) take(body []byte) api.Answer {
	domain, err := terms.Domain(body)
	switch {
	case err != api.OK:
		return api.Answer{Err: err}
	case domain == api.DomainCert:
		return m.takeCert(body)
	case domain == api.DomainReceipt:
		return m.takeReceipt(body)
	}
	return api.Answer{Err: api.ErrDomain}
}

func (m *model) takeCert(body []byte) api.Answer {
	x, err := terms.DecodeCert(body)
	if err != api.OK {
		return api.Answer{Err: err}
	}
	if !ring.CheckCert(keys(), x) {
		return api.Answer{Err: api.ErrSign}
	}
	at := slices.IndexFunc(m.purses, func(p api.Purse) bool {
		return p.Rides == x.Rides && p.Price == x.Price && value(node, p.Chain, p.Rides, 0) == x.Anchor
	})
	if at < 0 {
		return api.Answer{Err: api.ErrPurse}
	}
	if m.purses[at].Cert != x {
		if m.purses[at].Cert.Serial != 0 || carnet(m.purses, x.Serial) != nil {
			return api.Answer{Err: api.ErrOther}
		}
		err = m.lay(certOf(uint32(at+1), string(body)))
	}
	return done(err, api.Answer{Nums: []int64{int64(x.Serial), int64(at + 1)}})
}

func (m *model) takeReceipt(body []byte) api.Answer {
	x, err := terms.DecodeReceipt(body)
	if err != api.OK {
		return api.Answer{Err: err}
	}
	if !ring.CheckReceipt(keys(), x) {
		return api.Answer{Err: api.ErrSign}
	}
	p := carnet(m.purses, x.Serial)
	if p == nil {
		return api.Answer{Err: api.ErrPurse}
	}
	if p.Refund != x {
		if p.Refund.Serial != 0 {
			return api.Answer{Err: api.ErrOther}
		}
		err = m.lay(receiptOf(string(body)))
	}
	return done(err, api.Answer{Nums: []int64{int64(x.Rides), x.Amount}})
}

// pair is a wallet on its flash, and the model beside it.
type pair struct {
	t *testing.T
	f *flash.Flash
	w *wallet.Wallet
	m *model
}

func begin(t *testing.T, size int) *pair {
	t.Helper()
	p := &pair{t: t, f: flash.New(size), m: newModel(size)}
	p.w = open(t, p.f)
	return p
}

// resume is a pair over a journal that tells this.
func resume(t *testing.T, size int, epoch uint64, snapshot string, records ...string) *pair {
	t.Helper()
	m := &model{size: size, epoch: epoch, snapshot: snapshot, records: records}
	var ok bool
	m.purses, ok = readPurses(snapshot)
	for _, r := range records {
		if ok {
			m.purses, ok = playOn(m.purses, r)
		}
	}
	b := bank(epoch, snapshot, records...)
	if !ok || len(b) > size {
		t.Fatalf("no wallet's journal: %d bytes, %d purses", len(b), len(m.purses))
	}
	p := &pair{t: t, f: flash.Load(size, b, nil), m: m}
	p.w = open(t, p.f)
	p.wantAll("P18.1: Open")
	return p
}

func open(t *testing.T, f *flash.Flash) *wallet.Wallet {
	t.Helper()
	w, err := wallet.Open(config, keys(), number, f)
	if w == nil || err != api.OK {
		t.Fatalf("P18.1: Open = %v, %d", w, err)
	}
	return w
}

// Each call is made of both, which must answer the same; then the flash must hold what the model says.

func (p *pair) buy(rides int, price int64) api.Answer {
	p.t.Helper()
	return p.want("P18.3: Buy", p.w.Buy(rides, price), p.m.buy(rides, price))
}

func (p *pair) ride(serial, gate int) api.Answer {
	p.t.Helper()
	return p.want("P18.4: Ride", p.w.Ride(serial, gate), p.m.ride(serial, gate))
}

func (p *pair) take(body []byte) api.Answer {
	p.t.Helper()
	return p.want("P18.5: Take", p.w.Take(body), p.m.take(body))
}

func (p *pair) takeCert(x api.Cert) api.Answer {
	p.t.Helper()
	return p.take([]byte(tell(x)))
}

func (p *pair) takeReceipt(x api.Receipt) api.Answer {
	p.t.Helper()
	return p.take([]byte(tellReceipt(x)))
}

func (p *pair) want(what string, got, want api.Answer) api.Answer {
	p.t.Helper()
	if !sameAnswer(got, want) {
		p.t.Fatalf("%s = %+v, want %+v", what, got, want)
	}
	p.wantAll(what)
	return got
}

// wantAll asks the wallet's state and the flash's.
func (p *pair) wantAll(what string) {
	p.t.Helper()
	wantState(p.t, what, p.w.State(), p.m.purses)
	first, second := p.f.Files()
	if _, found, err := journal.Open(flash.Load(p.m.size, first, second)); err != api.OK || uint64(found.Epoch) != p.m.epoch || string(found.Snapshot) != p.m.snapshot || !slices.EqualFunc(found.Records, p.m.records, func(a []byte, b string) bool { return string(a) == b }) {
		p.t.Fatalf("%s: the flash holds epoch %d, %x, records %x (%d), want %d, %x, %x", what, found.Epoch, found.Snapshot, found.Records, err, p.m.epoch, p.m.snapshot, p.m.records)
	}
}

// wantErr asks the reason of an answer that was had of both.
func (p *pair) wantErr(what string, got api.Answer, want api.Errno) {
	p.t.Helper()
	if got.Err != want {
		p.t.Errorf("%s: %d, want %d", what, got.Err, want)
	}
}

// wantNums asks for an answer of these numbers.
func (p *pair) wantNums(what string, got api.Answer, nums ...int64) {
	p.t.Helper()
	if got.Err != api.OK || !slices.Equal(got.Nums, nums) {
		p.t.Errorf("%s: %d %v, want %v", what, got.Err, got.Nums, nums)
	}
}

// unwritten asks that a call writes nothing.
func (p *pair) unwritten(what string, call func()) {
	p.t.Helper()
	writes := p.f.Writes()
	call()
	if p.f.Writes() != writes {
		p.t.Errorf("%s has made %d writes", what, p.f.Writes()-writes)
	}
}

func sameAnswer(a, b api.Answer) bool {
	return a.Err == b.Err && slices.Equal(a.Nums, b.Nums) && slices.EqualFunc(a.Out, b.Out, func(x, y api.Message) bool {
		return x.ID == y.ID && x.From == y.From && x.To == y.To && string(x.Body) == string(y.Body)
	})
}

func wantState(t *testing.T, what string, got api.WalletState, want []api.Purse) {
	t.Helper()
	if !slices.Equal(got.Purses, want) {
		t.Fatalf("%s: P18.6: State = %+v, want %+v", what, got.Purses, want)
	}
}

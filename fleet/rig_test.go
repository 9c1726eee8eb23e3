package fleet_test

import (
	"bytes"
	"fmt"
	"math/rand/v2"
	"slices"
	"strings"
	"testing"

	"farebox/api"
	"farebox/chain"
	"farebox/fleet"
	"farebox/ring"
	"farebox/script"
	"farebox/terms"
)

// config is that of most tests: gates 1 and 2, the wallets' nodes 3 and 4.
var config = api.Config{Gates: 2, Wallets: 2, Rows: 4, Flash: 20000, Serials: 6, Secret: api.Hash{26, 1}}

const down = "error 121"

func chance(seed uint64) *rand.Rand { return rand.New(rand.NewPCG(26, seed)) }

func nodesOf(c api.Config) int { return 1 + c.Gates + c.Wallets }

// rig is a fleet that is stepped by lines.
type rig struct {
	t *testing.T
	c api.Config
	f *fleet.Fleet
}

// begin is a new fleet.
func begin(t *testing.T, c api.Config) *rig {
	t.Helper()
	f, err := fleet.New(c)
	if err != api.OK || f == nil {
		t.Fatalf("P26.1: New = %v, %d", f, err)
	}
	return &rig{t, c, f}
}

// resume is a fleet on these flashes.
func resume(t *testing.T, c api.Config, files []api.Files) *rig {
	t.Helper()
	f, err := fleet.Resume(c, files)
	if err != api.OK || f == nil {
		t.Fatalf("P26.2: Resume = %v, %d", f, err)
	}
	return &rig{t, c, f}
}

// op is the operation that a line tells.
func op(t *testing.T, line string) api.Op {
	t.Helper()
	o, err, place := script.Parse([]byte(line))
	if err != api.OK {
		t.Fatalf("the line %q: %d at %d", line, err, place)
	}
	return o
}

// injectLine is the line that injects a body.
func injectLine(node int, body []byte) string {
	line, _ := script.Format(api.Op{Kind: api.OpInject, Node: node, Body: body})
	return line
}

// do does a line, and tells the reply as one.
func (r *rig) do(line string) string {
	r.t.Helper()
	return script.Show(r.f.Do(op(r.t, line)))
}

// all does lines; behind the arrow of each stands its answer.
func (r *rig) all(lines ...string) *rig {
	r.t.Helper()
	for _, x := range lines {
		line, want, _ := strings.Cut(x, " -> ")
		if got := r.do(line); got != want {
			r.t.Fatalf("%s = %s, want %s", line, got, want)
		}
	}
	return r
}

// step does a line, and asks its reply, its events and what has come into the bag by it.
func (r *rig) step(line, want string, events ...string) api.Reply {
	r.t.Helper()
	before := len(r.f.Trace())
	o := op(r.t, line)
	reply := r.f.Do(o)
	if got := script.Show(reply); got != want {
		r.t.Fatalf("%.60s = %s, want %s", line, got, want)
	}
	told := r.f.Trace()[before:]
	if got := tellEvents(told); !slices.Equal(got, events) {
		r.t.Fatalf("%.60s tells %q, want %q", line, got, events)
	}
	if reply.Err == api.OK && o.Kind != api.OpHead {
		wantSent(r.t, r.f, line, reply, told)
	}
	return reply
}

// wantSent asks that each body that was told lies in the bag under its number.
func wantSent(t *testing.T, f *fleet.Fleet, line string, reply api.Reply, told []api.Event) {
	t.Helper()
	outs := slices.DeleteFunc(slices.Clone(told), func(e api.Event) bool { return e.Kind != api.EventOut })
	for i, e := range outs {
		id := int(reply.Nums[len(reply.Nums)-len(outs)+i])
		if id == 0 {
			continue
		}
		lying := f.Bag()
		at := slices.IndexFunc(lying, func(m api.Message) bool { return m.ID == id })
		if at < 0 || lying[at].From != e.Node || !bytes.Equal(lying[at].Body, e.Body) {
			t.Fatalf("P26.4: %.60s tells that node %d has sent %x, message %d is %+v", line, e.Node, e.Body, id, lying)
		}
	}
}

// eventNames and bodyNames are by their numbers.
var (
	eventNames = []string{"", "out", "inject", "accept", "store", "reveal", "pay", "retire", "down", "restart", "issue"}
	bodyNames  = []string{"", "cert", "ticket", "entry", "freeze", "ack", "revocation", "floor", "receipt", "order", "head"}
)

// tellEvent is an event as a text: its kind, its node, its numbers that are not 0, what its body is.
func tellEvent(e api.Event) string {
	told := fmt.Sprintf("%s %d", eventNames[e.Kind], e.Node)
	for _, x := range []struct {
		name string
		n    int64
	}{{"serial", int64(e.Serial)}, {"index", int64(e.Index)}, {"amount", e.Amount}} {
		if x.n != 0 {
			told += fmt.Sprintf(" %s %d", x.name, x.n)
		}
	}
	if domain, err := terms.Domain(e.Body); err == api.OK {
		told += " " + bodyNames[domain]
	} else if len(e.Body) > 0 {
		told += fmt.Sprintf(" %d bytes", len(e.Body))
	}
	return told
}

func tellEvents(list []api.Event) []string {
	var told []string
	for _, e := range list {
		told = append(told, tellEvent(e))
	}
	return told
}

func sameEvent(a, b api.Event) bool {
	return a.Kind == b.Kind && a.Node == b.Node && a.Serial == b.Serial && a.Index == b.Index && a.Amount == b.Amount && bytes.Equal(a.Body, b.Body)
}

func sameMessage(a, b api.Message) bool {
	return a.ID == b.ID && a.From == b.From && a.To == b.To && bytes.Equal(a.Body, b.Body)
}

func sameFiles(a, b api.Files) bool {
	return bytes.Equal(a.First, b.First) && bytes.Equal(a.Second, b.Second)
}

func sameReply(a, b api.Reply) bool { return a.Err == b.Err && slices.Equal(a.Nums, b.Nums) }

func sameIssuer(a, b api.IssuerState) bool {
	return a.Floor == b.Floor && a.Book == b.Book && slices.Equal(a.Leaves, b.Leaves) && slices.EqualFunc(a.Carnets, b.Carnets, sameCarnet)
}

func sameCarnet(a, b api.Carnet) bool {
	same := a.Refund.Serial == b.Refund.Serial && a.Refund.Rides == b.Refund.Rides && a.Refund.Top == b.Refund.Top && slices.Equal(a.Refund.Acked, b.Refund.Acked)
	return same && a.Owner == b.Owner && a.Cert == b.Cert && a.Status == b.Status && a.Paid == b.Paid
}

func sameGate(a, b api.GateState) bool {
	return a.Floor == b.Floor && a.Accepted == b.Accepted && slices.Equal(a.Rows, b.Rows)
}

func sameWallet(a, b api.WalletState) bool { return slices.Equal(a.Purses, b.Purses) }

// kept is what a node keeps: what it is of its kind, the others of zeros.
type kept struct {
	issuer api.IssuerState
	gate   api.GateState
	wallet api.WalletState
}

func sameKept(a, b kept) bool {
	return sameIssuer(a.issuer, b.issuer) && sameGate(a.gate, b.gate) && sameWallet(a.wallet, b.wallet)
}

// keptBy is what a node of a fleet keeps, by its number; false, if it is down.
func keptBy(c api.Config, f *fleet.Fleet, number int) (k kept, up bool) {
	switch {
	case number == 0:
		k.issuer, up = f.Issuer()
	case number <= c.Gates:
		k.gate, up = f.Gate(number)
	default:
		k.wallet, up = f.Wallet(number - c.Gates)
	}
	return k, up
}

// look is all that a fleet tells of itself but its trace.
type look struct {
	kept  []kept
	up    []bool
	files []api.Files
	bag   []api.Message
}

func lookAt(c api.Config, f *fleet.Fleet) look {
	x := look{up: f.Up(), files: f.Files(), bag: f.Bag()}
	for number := range nodesOf(c) {
		k, _ := keptBy(c, f, number)
		x.kept = append(x.kept, k)
	}
	return x
}

func sameLook(a, b look) bool {
	return slices.EqualFunc(a.kept, b.kept, sameKept) && slices.Equal(a.up, b.up) && slices.EqualFunc(a.files, b.files, sameFiles) && slices.EqualFunc(a.bag, b.bag, sameMessage)
}

// wantStill asks that the fleet is as it was, and that nothing is told.
func (r *rig) wantStill(what string, was look, events int) {
	r.t.Helper()
	if !sameLook(was, lookAt(r.c, r.f)) {
		r.t.Fatalf("%s has changed the fleet", what)
	}
	if told := r.f.Trace()[events:]; len(told) > 0 {
		r.t.Fatalf("%s tells %q", what, tellEvents(told))
	}
}

// still does a line that changes nothing and tells nothing.
func (r *rig) still(line, want string) {
	r.t.Helper()
	was, events := lookAt(r.c, r.f), len(r.f.Trace())
	if got := r.do(line); got != want {
		r.t.Fatalf("%.60s = %s, want %s", line, got, want)
	}
	r.wantStill(fmt.Sprintf("%.60s", line), was, events)
}

// seed is a node's secret, which only an enemy who has broken in would know.
func seed(c api.Config, node int) api.Hash {
	s, _ := ring.Seed(c, node)
	return s
}

// told is a term's message.
func told[T any](encode func(T) ([]byte, api.Errno), x T) []byte {
	b, err := encode(x)
	if err != api.OK {
		panic(fmt.Sprintf("%+v is not in range", x))
	}
	return b
}

// floorBody is a floor that the issuer has signed.
func floorBody(c api.Config, n int) []byte {
	return told(terms.EncodeFloor, ring.SealFloor(seed(c, 0), api.Floor{Floor: n}))
}

// foreign is a chain that no wallet of the fleet has made.
type foreign struct {
	chain api.Hash
	rides int
	price int64
}

func (x foreign) value(index int) api.Hash {
	v, ok := chain.Value(x.chain, x.rides, index)
	if !ok {
		panic("no index of this chain")
	}
	return v
}

func (x foreign) order() []byte {
	return told(terms.EncodeOrder, api.Order{Rides: x.rides, Price: x.price, Anchor: x.value(0)})
}

// cert is the certificate that the issuer gives for it under a serial.
func (x foreign) cert(c api.Config, serial int) api.Cert {
	return ring.SealCert(seed(c, 0), api.Cert{Serial: serial, Rides: x.rides, Price: x.price, Anchor: x.value(0)})
}

func (x foreign) ticket(c api.Config, serial, index int) []byte {
	return told(terms.EncodeTicket, api.Ticket{Cert: x.cert(c, serial), Index: index, Value: x.value(index)})
}

func (x foreign) entry(c api.Config, serial, index int) []byte {
	return told(terms.EncodeEntry, api.Entry{Cert: x.cert(c, serial), Index: index, Value: x.value(index)})
}

func (x foreign) ack(c api.Config, serial, gate, index int) []byte {
	return told(terms.EncodeAck, ring.SealAck(seed(c, gate), api.Ack{Serial: serial, Gate: gate, Index: index, Value: x.value(index)}))
}

// writing is a line at which a node writes to its flash once.
func writing(c api.Config, number int) string {
	switch {
	case number > c.Gates:
		return fmt.Sprintf("buy %d 1 1", number-c.Gates)
	case number > 0:
		return injectLine(number, floorBody(c, 1))
	}
	return injectLine(0, foreign{chain: api.Hash{0xFE}, rides: 1}.order())
}

// torn lets a node go down at a write of which so many bytes are kept.
func (r *rig) torn(number, keep int) *rig {
	r.t.Helper()
	return r.all(fmt.Sprintf("crash %d 1 %d -> ok", number, keep), writing(r.c, number)+" -> "+down)
}

// fell lets a node go down at a write of which nothing is kept.
func (r *rig) fell(number int) *rig {
	r.t.Helper()
	return r.torn(number, 0)
}

// sold is a fleet whose wallet 1 has a carnet of three rides at 100, serial 1; nothing is on its way.
func sold(t *testing.T, c api.Config) *rig {
	t.Helper()
	return begin(t, c).all("buy 1 3 100 -> ok 1 1", "deliver 1 -> ok 1 2", "deliver 2 -> ok 1 1")
}

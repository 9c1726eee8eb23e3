package fleet_test

import (
	"testing"

	"farebox/api"
	"farebox/chain"
	"farebox/fleet"
	"farebox/ring"
	"farebox/script"
	"farebox/table"
	"farebox/terms"
)

// watch looks at a fleet that has run from New on, behind each operation: what follows from the promises must hold of all that has happened so far.
type watch struct {
	t        *testing.T
	c        api.Config
	f        *fleet.Fleet
	met      *tally
	line     string // the operation that is looked at
	events   int
	told     map[int]api.Cert  // the certificates that the issuer has told, by serial
	anchors  map[api.Hash]bool // that a wallet has told in an order
	revealed map[int]int       // the highest index of a serial
	accepts  map[int][]accept  // of a serial
	gates    []gateWatch       // by number
	issuer   api.IssuerState   // as it was known last
	paid     map[int]bool      // the serials whose payout was told
	may      [][]kept          // what a node that is down may keep, by number
}

// accept is one of a serial. Its depth is the greatest number of accepts of which each was known at the gate of the next, with it as the last.
type accept struct{ gate, index, depth int }

// gateWatch is what is known of a gate.
type gateWatch struct {
	stored  map[int]int  // the greatest index of a serial
	retired map[int]bool // the serials that were frozen or revoked
	floor   int
}

func newWatch(t *testing.T, c api.Config, f *fleet.Fleet, met *tally) *watch {
	w := &watch{t: t, c: c, f: f, met: met, told: map[int]api.Cert{}, anchors: map[api.Hash]bool{}, revealed: map[int]int{}, accepts: map[int][]accept{}, paid: map[int]bool{}}
	for range c.Gates + 1 {
		w.gates = append(w.gates, gateWatch{stored: map[int]int{}, retired: map[int]bool{}})
	}
	w.may = make([][]kept, nodesOf(c))
	return w
}

// bad fails, with the operation behind which something was found.
func (w *watch) bad(what string, with ...any) {
	w.t.Helper()
	w.t.Fatalf("%s, behind %.60s: %+v", what, w.line, with)
}

// done is an operation that was looked at, with what there was ahead of it.
type done struct {
	o      api.Op
	m      api.Message // that was delivered
	number int         // the node that it was for; -1, if there is none
	old    look
	reply  api.Reply
}

// do does an operation, and looks at what has come of it.
func (w *watch) do(o api.Op) api.Reply {
	w.t.Helper()
	w.line, _ = script.Format(o)
	x := done{o: o, old: lookAt(w.c, w.f), number: -1}
	for _, m := range x.old.bag {
		if o.Kind == api.OpDeliver && m.ID == o.Count {
			x.m = m
		}
	}
	x.reply = w.f.Do(o)
	if x.reply.Err != api.ErrNode && x.reply.Err != api.ErrNoMsg {
		x.number = nodeOf(w.c, o, x.m)
	}
	trace := w.f.Trace()
	for _, e := range trace[w.events:] {
		w.event(e)
	}
	w.events = len(trace)
	now := lookAt(w.c, w.f)
	w.keeps(x, now)
	w.serves(x)
	w.rows(now)
	if now.up[0] {
		w.books(now.kept[0].issuer)
	}
	return x.reply
}

// keeps is W2, and that what is refused changes nothing (P26.20): only the node that was asked has changed, to what the operation makes of it, whole; while it is down it may be as ahead of it, too.
func (w *watch) keeps(x done, now look) {
	w.t.Helper()
	for n := range now.kept {
		wasUp, isUp := x.old.up[n], now.up[n]
		switch {
		case n == x.number && x.o.Kind == api.OpRestart:
			w.restarted(n, x, now)
		case n == x.number && wasUp && x.reply.Err == api.ErrDown:
			w.met.add("down")
			w.may[n] = []kept{x.old.kept[n], behind(w.t, w.c, n, x.old.files[n], x.o, x.m)}
			if isUp {
				w.bad("P26.5: a node is up that went down", n)
			}
		case n == x.number && x.reply.Err == api.OK:
			if want := behind(w.t, w.c, n, x.old.files[n], x.o, x.m); !isUp || !sameKept(now.kept[n], want) {
				w.bad("P26.15: what a node keeps behind its answer", n, now.kept[n], want)
			}
		case isUp != wasUp || !sameKept(now.kept[n], x.old.kept[n]):
			w.bad("P26.20: a node has changed by what was refused, or was not for it", n, x.reply, now.kept[n], x.old.kept[n])
		}
	}
}

// restarted looks at a node that was restarted.
func (w *watch) restarted(n int, x done, now look) {
	w.t.Helper()
	if x.old.up[n] {
		w.may[n] = []kept{x.old.kept[n]}
	}
	if now.up[n] != (x.reply.Err == api.OK) {
		w.bad("P26.11: a restart", n, x.reply)
	}
	if !now.up[n] {
		w.met.add("down while it recovers")
		return
	}
	for i, k := range w.may[n] {
		if sameKept(now.kept[n], k) {
			w.met.add([]string{"as it was", "behind what was cut off"}[i])
			return
		}
	}
	w.bad("P26.15: what a node keeps behind its restart", n, now.kept[n], w.may[n])
}

// event looks at one event.
func (w *watch) event(e api.Event) {
	w.t.Helper()
	switch e.Kind {
	case api.EventOut:
		w.out(e)
	case api.EventReveal:
		if e.Index <= w.revealed[e.Serial] {
			w.bad("P18.7: a ride is revealed twice", e)
		}
		w.revealed[e.Serial] = e.Index
	case api.EventAccept:
		w.accept(e)
	case api.EventStore:
		w.stores("P26.19", e.Node, e.Serial, e.Index)
	case api.EventRetire:
		g := &w.gates[e.Node]
		g.floor = max(g.floor, e.Index)
		g.retired[e.Serial] = true
	case api.EventPay:
		if w.paid[e.Serial] || e.Amount != int64(e.Index)*w.told[e.Serial].Price {
			w.bad("P26.17: a payout", e)
		}
		w.paid[e.Serial] = true
		w.met.add("paid")
	}
}

// out looks at a message that was sent: what it tells of first.
func (w *watch) out(e api.Event) {
	w.t.Helper()
	if x, err := terms.DecodeOrder(e.Body); err == api.OK && e.Node > w.c.Gates {
		w.anchors[x.Anchor] = true
	}
	if e.Node != 0 {
		return
	}
	cert, err := terms.DecodeCert(e.Body)
	if err != api.OK {
		f, freezeErr := terms.DecodeFreeze(e.Body)
		v, _ := terms.DecodeRevocation(e.Body)
		cert = v.Cert
		if freezeErr == api.OK {
			cert = f.Cert
		}
	}
	if cert.Serial == 0 {
		return
	}
	if old, there := w.told[cert.Serial]; there && old != cert {
		w.bad("P23.13: a serial has two certificates", old, cert)
	}
	w.told[cert.Serial] = cert
}

// accept is W3 to W6 of an accept.
func (w *watch) accept(e api.Event) {
	w.t.Helper()
	cert, told := w.told[e.Serial]
	g := w.gates[e.Node]
	stored := g.stored[e.Serial]
	switch {
	case !told || e.Index < 1 || e.Index > cert.Rides:
		w.bad("P26.16: an accept of what the issuer has not told of", e, cert)
	case e.Index <= stored:
		w.bad("P26.16: an accept that is not above what was stored there", e, stored)
	case g.retired[e.Serial] || e.Serial < g.floor:
		w.bad("P26.18: an accept of what is retired", e)
	case w.anchors[cert.Anchor] && e.Index > w.revealed[e.Serial]:
		w.bad("P26.19: an accept of what was not revealed", e, w.revealed[e.Serial])
	case w.isPaid(e.Serial) && e.Index > w.issuer.Carnets[e.Serial-1].Refund.Top:
		w.bad("P26.17: an accept of what was paid back", e)
	}
	x := accept{e.Node, e.Index, 1}
	for _, a := range w.accepts[e.Serial] {
		if a.index <= stored {
			x.depth = max(x.depth, a.depth+1)
		}
	}
	w.accepts[e.Serial] = append(w.accepts[e.Serial], x)
	if x.depth > cert.Rides || len(w.accepts[e.Serial]) > cert.Rides*w.c.Gates {
		w.bad("P26.16: more accepts than rides", w.accepts[e.Serial])
	}
	w.met.add("accepted")
}

// stores is W3 and W6 of an index that a gate has stored.
func (w *watch) stores(promise string, gate, serial, index int) {
	w.t.Helper()
	cert, told := w.told[serial]
	g := w.gates[gate]
	switch {
	case !told || index > cert.Rides:
		w.bad(promise+": a gate has stored what the issuer has not told of", gate, serial, index)
	case index < g.stored[serial]:
		w.bad(promise+": what a gate has stored has fallen", gate, serial, index, g.stored[serial])
	case w.anchors[cert.Anchor] && index > w.revealed[serial]:
		w.bad(promise+": a gate has stored what was not revealed", gate, serial, index, w.revealed[serial])
	}
	g.stored[serial] = index
}

// rows looks at what the gates keep, by whatever road it came: what a crash has let through was not told.
func (w *watch) rows(now look) {
	w.t.Helper()
	for n := 1; n <= w.c.Gates; n++ {
		if !now.up[n] {
			continue
		}
		g := &w.gates[n]
		s := now.kept[n].gate
		if s.Floor.Floor < g.floor {
			w.bad("P26.18: a gate's floor has fallen", n, s.Floor.Floor, g.floor)
		}
		g.floor = s.Floor.Floor
		for _, row := range s.Rows {
			w.stores("P26.15", n, row.Cert.Serial, row.Index)
			g.retired[row.Cert.Serial] = g.retired[row.Cert.Serial] || row.Frozen || row.Revoked
		}
	}
}

// isPaid tells whether the issuer has paid a carnet back, as it was known last.
func (w *watch) isPaid(serial int) bool {
	return serial <= len(w.issuer.Carnets) && w.issuer.Carnets[serial-1].Status == api.Paid
}

// books is W9, and W4 of each payout, of one that went down too.
func (w *watch) books(s api.IssuerState) {
	w.t.Helper()
	cash, unearned := int64(0), int64(0)
	for i, x := range s.Carnets {
		price := int64(x.Cert.Rides) * x.Cert.Price
		cash += price - x.Paid
		if x.Status == api.Issued || x.Status == api.Freezing {
			unearned += price
		}
		back := int64(0)
		if x.Status == api.Paid {
			back = int64(x.Cert.Rides-x.Refund.Top) * x.Cert.Price
		}
		if x.Paid != back {
			w.bad("P26.17: what was paid back for a carnet", x)
		}
		if w.isPaid(i+1) && !sameCarnet(x, w.issuer.Carnets[i]) {
			w.bad("P26.17: a carnet that was paid back has changed", x, w.issuer.Carnets[i])
		}
		if x.Status == api.Paid && !w.isPaid(i+1) {
			w.paidOut(x)
		}
	}
	w.issuer = s
	if got := w.f.Do(api.Op{Kind: api.OpMoney}); !sameReply(got, api.Reply{Nums: []int64{cash, unearned, cash - unearned}}) {
		w.bad("W9: the books", got, cash, unearned)
	}
}

// paidOut is W4 and W6 of a payout.
func (w *watch) paidOut(x api.Carnet) {
	w.t.Helper()
	serial := x.Cert.Serial
	for _, a := range w.accepts[serial] {
		if a.index > x.Refund.Top {
			w.bad("P26.17: a ride that was accepted is paid back", a, x)
		}
	}
	if w.anchors[x.Cert.Anchor] && x.Refund.Top > w.revealed[serial] {
		w.bad("P26.19: a payout leaves rides that were not revealed", x, w.revealed[serial])
	}
	if len(w.accepts[serial]) > 0 && x.Paid > 0 {
		w.met.add("paid back in part")
	}
}

// serves is P26.21 of a ticket that a gate was handed: good ones are accepted, others are not.
func (w *watch) serves(x done) {
	w.t.Helper()
	body := x.m.Body
	if x.o.Kind == api.OpInject {
		body = x.o.Body
	}
	ticket, err := terms.DecodeTicket(body)
	if err != api.OK || x.number < 1 || x.number > w.c.Gates || !x.old.up[x.number] {
		return
	}
	s := x.old.kept[x.number].gate
	row, there := table.Find(s, ticket.Cert.Serial)
	good := ring.CheckCert(keysOf(w.c), ticket.Cert) && ticket.Cert.Serial >= s.Floor.Floor && (!there || row.Cert == ticket.Cert) && !row.Frozen && !row.Revoked &&
		ticket.Index > row.Index && chain.Check(ticket.Cert.Anchor, ticket.Cert.Rides, ticket.Index, ticket.Value)
	full := !there && len(s.Rows) == w.c.Rows
	want := map[api.Errno]bool{api.OK: true, api.ErrDown: true, api.ErrRoom: true}
	switch {
	case good && full:
		want = map[api.Errno]bool{api.ErrRows: true}
	case !good:
		want = map[api.Errno]bool{api.ErrFloor: true, api.ErrSign: true, api.ErrOther: true, api.ErrGone: true, api.ErrFrozen: true, api.ErrIndex: true, api.ErrChain: true}
	}
	if !want[x.reply.Err] {
		w.bad("P26.21: a ticket", ticket, row, x.reply)
	}
	w.met.add(map[bool]string{true: "a good ticket", false: "a bad ticket"}[good])
}

// end looks at a fleet that goes on from the flashes: what they tell is all there is.
func (w *watch) end() {
	w.t.Helper()
	w.line = "the end"
	now := lookAt(w.c, w.f)
	f, err := fleet.Resume(w.c, now.files)
	if err != api.OK {
		w.bad("P26.2: Resume", err)
	}
	for n := range now.kept {
		got, _ := keptBy(w.c, f, n)
		may := w.may[n]
		if now.up[n] {
			may = []kept{now.kept[n]}
		}
		if !sameKept(got, may[0]) && !sameKept(got, may[len(may)-1]) {
			w.bad("P26.15: what a node keeps behind Resume", n, got, may)
		}
	}
}

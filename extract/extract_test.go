package extract_test

import (
	"bytes"
	"fmt"
	"slices"
	"strings"
	"testing"

	"farebox/api"
	"farebox/extract"
	"farebox/fleet"
	"farebox/mac"
	"farebox/ring"
	"farebox/script"
	"farebox/terms"
)

// calls are the four that look for a break, by their promises.
func calls() map[string]call {
	return map[string]call{"P27.2": extract.Forgery, "P27.3": extract.Preimage, "P27.4": extract.Stray, "P27.5": extract.Total}
}

// stage is a fleet that is stepped by lines, and looked at by a witness.
type stage struct {
	t *testing.T
	*witness
}

// sold is the scene of the examples: one gate, one wallet, which has a carnet of three rides.
func sold(t *testing.T) *stage {
	t.Helper()
	c := api.Config{Gates: 1, Wallets: 1, Rows: 8, Flash: 20000, Serials: 10, Secret: api.Hash{27, 2}}
	f, err := fleet.New(c)
	if err != api.OK {
		t.Fatal("fleet.New:", err)
	}
	s := &stage{t, watching(c, f)}
	return s.all("buy 1 3 100 -> ok 1 1", "deliver 1 -> ok 1 2", "deliver 2 -> ok 1 1")
}

// all does lines; behind the arrow of each stands its answer.
func (s *stage) all(lines ...string) *stage {
	s.t.Helper()
	for _, x := range lines {
		text, want, _ := strings.Cut(x, " -> ")
		o, err, _ := script.Parse([]byte(text))
		if err != api.OK {
			s.t.Fatalf("the line %q: %d", text, err)
		}
		if got := script.Show(s.do(o)); got != want {
			s.t.Fatalf("%.60s = %s, want %s", text, got, want)
		}
	}
	return s
}

// injected injects a body at a node.
func (s *stage) injected(node int, body []byte, want string) *stage {
	s.t.Helper()
	if got := script.Show(s.do(api.Op{Kind: api.OpInject, Node: node, Body: body})); got != want {
		s.t.Fatalf("injected at node %d: %s, want %s", node, got, want)
	}
	return s
}

// value is one of the wallet's chain, which only who knows its secret can reckon.
func (s *stage) value(index int) api.Hash {
	s.t.Helper()
	return line{s.secret(1), 3}.value(index)
}

// secret is the seed of one of the wallet's chains.
func (s *stage) secret(number int) api.Hash {
	s.t.Helper()
	secret, _ := mac.Derive(s.key(2), "chain", number)
	return secret
}

func (s *stage) cert() api.Cert {
	s.t.Helper()
	w, _ := s.f.Wallet(1)
	if len(w.Purses) == 0 {
		s.t.Fatal("no carnet")
	}
	return w.Purses[0].Cert
}

// ticket is one that is made outside the fleet.
func (s *stage) ticket(index int) []byte { return ticketOf(s.cert(), index, s.value(index)) }

func (s *stage) wantPublished(want ...api.Hash) *stage {
	s.t.Helper()
	if got := extract.Published(s.f.Trace()); !slices.Equal(got, want) {
		s.t.Errorf("P27.1: published is %x, want %x", got, want)
	}
	return s
}

func (s *stage) wantNothing(what string) *stage {
	s.t.Helper()
	for promise, find := range calls() {
		wantNone(s.t, promise+": "+what, find, keysOf(s.c), s.f.Trace())
	}
	return s
}

func (s *stage) wantTotal(what string, want api.Break) *stage {
	s.t.Helper()
	wantBreak(s.t, "P27.5: "+what, extract.Total, keysOf(s.c), s.f.Trace(), want)
	return s
}

// TestExamplesP27 are the chapter's, line by line.
func TestExamplesP27(t *testing.T) {
	s := sold(t).wantNothing("a carnet is sold")
	s.wantPublished(s.value(0))
	s.all("ride 1 1 1 -> ok 1 1 3").wantPublished(s.value(0), s.value(1)).wantNothing("a ride is told")
	s.injected(1, s.ticket(2), "ok 1 2").wantTotal("the value of ride 2", preimage(s.value(2), 1))

	s = sold(t).all("crash 2 1 5000 -> ok", "ride 1 1 1 -> error 121", "restart 2 -> ok", "ride 1 1 1 -> ok 1 2 3")
	s.wantPublished(s.value(0), s.value(2))
	s.injected(1, s.ticket(1), "ok 1 1").wantNothing("a burnt ride, behind the next one")
	s.all("deliver 3 -> ok 1 2").wantNothing("a burnt ride, and the next one")

	s = sold(t).all("ride 1 1 1 -> ok 1 1 3")
	s.injected(1, s.ticket(1), "ok 1 1").wantNothing("a ticket once more")
	s.all("deliver 3 -> error 190").injected(1, s.ticket(1), "error 190").wantNothing("a ticket twice more")

	s = sold(t)
	s.injected(1, s.ticket(1), "ok 1 1").wantTotal("a ride that is not revealed", preimage(s.value(1), 1))
	s.all("ride 1 1 1 -> ok 1 1 3").wantTotal("a ride that is revealed behind it", preimage(s.value(1), 1))

	s = sold(t)
	gate, _ := ring.Seed(s.c, 1)
	ack := ackOf(gate, 1, 1, 0, s.value(0))
	s.injected(0, ack, "error 232")
	says, sigs, _ := terms.Said(ack)
	s.wantTotal("the gate's key outside the fleet", api.Break{Kind: api.BreakForgery, Key: keysOf(s.c).Gates[0], Say: says[0], Sig: sigs[0]})

	s = sold(t).all("ride 1 1 1 -> ok 1 1 3", "deliver 3 -> ok 1 1", "freeze 1 -> ok 1 4", "deliver 4 -> ok 1 1 5")
	own := s.f.Bag()[0].Body
	s.injected(0, own, "ok 1 1 0").injected(0, own, "ok 1 1 0").wantNothing("the gate's own acknowledgement")
	s.all("pay 1 -> ok 2 200 6").injected(0, own, "error 232").wantNothing("the gate's own acknowledgement, behind the payout")

	s = sold(t)
	for _, b := range [][]byte{nil, {1, 2, 3}, []byte("no message"), {'F', 'B', 1, 11}, bytes.Repeat([]byte{'F'}, 1025), s.ticket(2)[:151], append(s.ticket(2), 0)} {
		for node := range 3 {
			s.do(api.Op{Kind: api.OpInject, Node: node, Body: b})
			s.wantNothing("no message")
		}
	}
}

// TestEmptyTraceP27: nothing is found where nothing happened, and nothing is genuine there.
func TestEmptyTraceP27(t *testing.T) {
	for _, trace := range [][]api.Event{nil, {}, {{}}, {{Kind: api.EventInject}}, {{Kind: api.EventOut}}, {inject(nil), out(0, nil)}} {
		for _, r := range []api.Ring{{}, keys()} {
			for promise, find := range calls() {
				wantNone(t, promise+": nothing happened", find, r, trace)
			}
			for _, b := range []api.Break{{}, {Kind: 1}, {Kind: 2}, {Kind: 3}, {Kind: 2, Steps: 1}, {Kind: 3, Steps: 1}, {Kind: 1, Key: r.Issuer, Say: []byte{}}, forgery(t, 0, floorOf(seed(0), 2), 0), preimage(first.value(1), 1), stray(first.value(1), 1)} {
				wantGenuine(t, "nothing happened", r, trace, b, false)
			}
			if got := extract.Published(trace); len(got) > 0 {
				t.Errorf("P27.1: published is %x", got)
			}
		}
	}
}

// TestJunkP27: what terms.Said refuses says nothing, told and shown, and hides nothing.
func TestJunkP27(t *testing.T) {
	var told, shown []api.Event
	for _, b := range junk() {
		if _, _, err := terms.Said(b); err == api.OK {
			t.Fatalf("%.20x is a message", b)
		}
		told = append(told, out(0, b), out(4, b))
		shown = append(shown, inject(b))
	}
	for promise, find := range calls() {
		wantNone(t, promise+": junk", find, keys(), slices.Concat(told, shown, told))
	}
	// Junk that is like a break: the pair, the value, the ride.
	for promise, x := range oneOfEach(t) {
		if promise == "P27.5" {
			continue
		}
		body := x.trace[len(x.trace)-1].Body
		for _, bad := range [][]byte{body[:len(body)-1], append(bytes.Clone(body), 0)} {
			trace := append(slices.Clone(x.trace[:len(x.trace)-1]), inject(bad))
			wantNone(t, promise+": cut off, or longer", calls()[promise], keys(), trace)
			wantGenuine(t, "cut off, or longer", keys(), trace, x.b, false)
		}
		wantBreak(t, promise+": among junk", calls()[promise], keys(), slices.Concat(shown, told, x.trace, shown, told), x.b)
	}
}

// found is a trace with one break, which the last event shows.
type found struct {
	trace []api.Event
	b     api.Break
}

// oneOfEach are traces with one break alone, by the promise that finds it.
func oneOfEach(t *testing.T) map[string]found {
	ack := first.ack(2, 0)
	told := []api.Event{out(4, first.order()), out(0, body(terms.EncodeCert, first.cert())), out(4, first.ticket(1)), out(5, orderOf(first.value(3), 2))}
	return map[string]found{
		"P27.2": {append(slices.Clone(told), inject(ack)), forgery(t, 2, ack, 0)},
		"P27.3": {append(slices.Clone(told), inject(first.ticket(6))), preimage(first.value(6), 3)},
		"P27.4": {append(slices.Clone(told), inject(first.entry(3))), stray(first.value(3), 3)},
	}
}

// TestTotalP27_5: a forgery goes ahead of a preimage, and that ahead of a stray, in whatever order they are shown.
func TestTotalP27_5(t *testing.T) {
	one := oneOfEach(t)
	told := one["P27.2"].trace[:4]
	show := func(promise string) api.Event { return one[promise].trace[4] }
	f, p, s := "P27.2", "P27.3", "P27.4"
	for _, x := range []struct {
		shown []string
		want  string
	}{
		{[]string{f}, f}, {[]string{p}, p}, {[]string{s}, s},
		{[]string{f, p}, f}, {[]string{p, f}, f}, {[]string{f, s}, f}, {[]string{s, f}, f}, {[]string{p, s}, p}, {[]string{s, p}, p},
		{[]string{f, p, s}, f}, {[]string{s, p, f}, f}, {[]string{p, s, s, f}, f}, {[]string{s, s, p}, p},
	} {
		trace := slices.Clone(told)
		for _, promise := range x.shown {
			trace = append(trace, show(promise))
		}
		wantBreak(t, fmt.Sprint("P27.5: ", x.shown), extract.Total, keys(), trace, one[x.want].b)
		for promise, find := range calls() {
			if slices.Contains(x.shown, promise) {
				wantBreak(t, fmt.Sprint(promise, ": ", x.shown), find, keys(), trace, one[promise].b)
			} else if promise != "P27.5" {
				wantNone(t, fmt.Sprint(promise, ": ", x.shown), find, keys(), trace)
				wantGenuine(t, fmt.Sprint(x.shown), keys(), trace, one[promise].b, false)
			}
		}
	}
	wantNone(t, "P27.5: nothing is shown", extract.Total, keys(), told)
	// One body that is all three would be: a frozen entry of a stray value with a forged freeze, here with a preimage in an acknowledgement.
	both := []api.Event{inject(flagged(seed(0), first.cert(), 3, first.value(3), true, false))}
	wantBreak(t, "P27.5: a forged freeze of a stray", extract.Total, keys(), append(slices.Clone(told), both...), forgery(t, 0, both[0].Body, 1))
	both = []api.Event{inject(first.ack(2, 5))}
	wantBreak(t, "P27.5: a forged acknowledgement of a preimage", extract.Total, keys(), append(slices.Clone(told), both...), forgery(t, 2, both[0].Body, 0))
	wantBreak(t, "P27.3: a forged acknowledgement of a preimage", extract.Preimage, keys(), append(slices.Clone(told), both...), preimage(first.value(5), 2))
	wantBreak(t, "P27.5: the same without the gate's key", extract.Total, api.Ring{Issuer: keys().Issuer}, append(slices.Clone(told), both...), preimage(first.value(5), 2))
}

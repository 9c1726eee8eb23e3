package fleet_test

import (
	"fmt"
	"slices"
	"strings"
	"testing"

	"farebox/api"
	"farebox/ring"
	"farebox/table"
	"farebox/terms"
)

// TestRunsW2 are drawn runs, with messages lost, doubled and delivered in any order, bytes injected and nodes going down; they are held against P26.15 to P26.21, and so against W2 to W6, W8 and W9.
func TestRunsW2(t *testing.T) {
	met := &tally{met: map[string]int{}}
	runs(t, 60, 400, func(d *drawn) func(o api.Op) {
		w := newWatch(d.t, d.c, d.f, met)
		d.t.Cleanup(w.end)
		return func(o api.Op) { w.do(o) }
	})
	met.want(t, 20, "down", "down while it recovers", "as it was", "behind what was cut off", "accepted", "paid", "paid back in part", "a good ticket", "a bad ticket")
}

// accepted are the indices that were accepted, by gate and serial, in their order.
func accepted(r *rig, gate, serial int) []int {
	var list []int
	for _, e := range r.f.Trace() {
		if e.Kind == api.EventAccept && e.Node == gate && e.Serial == serial {
			list = append(list, e.Index)
		}
	}
	return list
}

// rides lets wallet 1 reveal so many rides of serial 1 for a gate; it tells the tickets, and takes them out of the bag.
func (r *rig) rides(n, gate int) [][]byte {
	r.t.Helper()
	var list [][]byte
	for range n {
		reply := r.f.Do(op(r.t, fmt.Sprintf("ride 1 1 %d", gate)))
		if reply.Err != api.OK {
			r.t.Fatalf("ride 1 1 %d: %d", gate, reply.Err)
		}
		bag := r.f.Bag()
		list = append(list, bag[len(bag)-1].Body)
		r.all(fmt.Sprintf("drop %d -> ok", reply.Nums[2]))
	}
	return list
}

// TestNoRideTwiceP26_16 is W3: each ticket, at each gate, as often as one likes, in any order, across restarts and crashes.
func TestNoRideTwiceP26_16(t *testing.T) {
	for n := range uint64(12) {
		d := chance(n)
		r := begin(t, config).all("buy 1 4 1 -> ok 1 1", "deliver 1 -> ok 1 2", "deliver 2 -> ok 1 1")
		tickets := r.rides(4, 1)
		for range 40 {
			gate := 1 + d.IntN(2)
			if d.IntN(6) == 0 {
				r.all(fmt.Sprintf("crash %d 1 %d -> ok", gate, d.IntN(2)*5000))
			}
			if got := r.do(injectLine(gate, tickets[d.IntN(4)])); got == down {
				r.all(fmt.Sprintf("restart %d -> ok", gate))
			}
			if n%2 == 0 {
				continue
			}
			// In every second fleet the gates meet behind each ticket: what one has accepted the other knows.
			for _, line := range []string{"gossip 1 2", "gossip 2 1"} {
				r.do(line)
				for _, m := range r.f.Bag() {
					if r.do(fmt.Sprintf("deliver %d", m.ID)) == down {
						r.all(fmt.Sprintf("restart %d -> ok", m.To))
					}
				}
			}
		}
		one, two := accepted(r, 1, 1), accepted(r, 2, 1)
		for _, list := range [][]int{one, two} {
			if !slices.IsSorted(list) || len(slices.Compact(slices.Clone(list))) != len(list) || len(list) > 4 {
				t.Errorf("P26.16: accepted are %d", list)
			}
		}
		if all := len(one) + len(two); n%2 == 1 && all > 4 {
			t.Errorf("P26.16: of a carnet of 4 rides %d and %d are accepted, where each gate knew of the other", one, two)
		}
	}
}

// TestEachGateP26_16: gates that know nothing of one another accept each ride once, and no more; what one has stored by gossip it does not accept.
func TestEachGateP26_16(t *testing.T) {
	r := sold(t, config)
	tickets := r.rides(3, 1)
	for gate := 1; gate <= 2; gate++ {
		for i := range tickets {
			r.given(gate, tickets[i], fmt.Sprintf("ok 1 %d", i+1), fmt.Sprintf("accept %d serial 1 index %d", gate, i+1), fmt.Sprintf("store %d serial 1 index %d", gate, i+1))
			r.given(gate, tickets[i], "error 190")
		}
	}
	r = sold(t, config)
	tickets = r.rides(3, 1)
	r.do(injectLine(1, tickets[1]))
	r.all("gossip 1 2 -> ok 1 6", "deliver 6 -> ok 1 2 1")
	r.given(2, tickets[0], "error 190")
	r.given(2, tickets[1], "error 190")
	r.given(2, tickets[2], "ok 1 3", "accept 2 serial 1 index 3", "store 2 serial 1 index 3")
	// A serial that the issuer has not told of: nobody can sign for it.
	other := foreign{chain: api.Hash{1}, rides: 3}
	cert := ring.SealCert(enemySeed, api.Cert{Serial: 2, Rides: 3, Anchor: other.value(0)})
	r.given(2, told(terms.EncodeTicket, api.Ticket{Cert: cert, Index: 1, Value: other.value(1)}), "error 110")
}

// TestBurntP26_15: a ride that a gate has stored when it went down is used there, and is not accepted; another gate may accept it.
func TestBurntP26_15(t *testing.T) {
	r := sold(t, config)
	tickets := r.rides(3, 1)
	r.all("crash 1 1 5000 -> ok")
	r.given(1, tickets[1], down, "down 1")
	r.all("restart 1 -> ok", "row 1 1 -> ok 2 0 0")
	r.given(1, tickets[1], "error 190")
	r.given(1, tickets[0], "error 190")
	if got := accepted(r, 1, 1); len(got) > 0 {
		t.Errorf("P26.15: accepted are %d", got)
	}
	r.given(1, tickets[2], "ok 1 3", "accept 1 serial 1 index 3", "store 1 serial 1 index 3")
	// One of which the flash has kept nothing is as if it had not come.
	r.all("crash 2 1 30 -> ok")
	r.given(2, tickets[1], down, "down 2")
	r.all("restart 2 -> ok", "row 2 1 -> error 230")
	r.given(2, tickets[1], "ok 1 2", "accept 2 serial 1 index 2", "store 2 serial 1 index 2")
}

// TestRefundP26_17 is W4: whatever was accepted, wherever, is not paid back; what is paid back is not accepted any more; it is paid once.
func TestRefundP26_17(t *testing.T) {
	for at1 := range 4 {
		for at2 := range 4 {
			r := sold(t, config)
			tickets := r.rides(3, 1)
			for gate, top := range []int{1: at1, 2: at2} {
				if top > 0 {
					r.do(injectLine(gate, tickets[top-1]))
				}
			}
			r.all("freeze 1 -> ok 1 6 7", fmt.Sprintf("deliver 6 -> ok 1 %d 8", at1), "pay 1 -> error 211", fmt.Sprintf("deliver 7 -> ok 1 %d 9", at2))
			// An acknowledgement that comes twice, or behind another one's, changes nothing.
			top := max(at1, at2)
			r.all("double 8 -> ok 10", fmt.Sprintf("deliver 9 -> ok 1 %d 1", at2), "pay 1 -> error 211", fmt.Sprintf("deliver 10 -> ok 1 %d 0", top), fmt.Sprintf("deliver 8 -> ok 1 %d 0", top))
			back := 3 - top
			r.step("pay 1", fmt.Sprintf("ok %d %d 11", back, 100*back), strings.TrimSuffix(fmt.Sprintf("pay 0 serial 1 index %d amount %d", back, 100*back), " index 0 amount 0"), "out 0 receipt")
			r.still("pay 1", "error 232")
			r.still("money", fmt.Sprintf("ok %d 0 %d", 100*top, 100*top))
			r.still("carnet 1", fmt.Sprintf("ok 3 3 100 %d 2 %d", top, 100*back))
			for gate := 1; gate <= 2; gate++ {
				for _, ticket := range tickets {
					r.given(gate, ticket, "error 191")
				}
				for _, index := range accepted(r, gate, 1) {
					if index > top {
						t.Errorf("P26.17: index %d was accepted, %d rides are paid back", index, back)
					}
				}
			}
		}
	}
}

// TestGreaterAckP26_17: of two acknowledgements of one gate the greater counts, whichever comes first; that the carnet is frozen once more takes nothing back.
func TestGreaterAckP26_17(t *testing.T) {
	for _, order := range [][2]int{{1, 3}, {3, 1}} {
		r := begin(t, config).all(injectLine(0, theirs.order())+" -> ok 1 0", "freeze 1 -> ok 1 1 2")
		for _, index := range order {
			r.do(injectLine(0, theirs.ack(config, 1, 1, index)))
		}
		r.all("freeze 1 -> ok 1 3 4", injectLine(0, theirs.ack(config, 1, 2, 2))+" -> ok 1 3 0", "pay 1 -> ok 2 0")
	}
}

// TestRetiredP26_18 is W5: behind a freeze, a revocation or a floor, by message or by another gate's entry, nothing of the carnet is accepted, across restarts too; of others it is.
func TestRetiredP26_18(t *testing.T) {
	c := config
	c.Gates = 3
	for _, kind := range []string{"freeze 1", "revoke 1", "floor 2"} {
		r := sold(t, c).all("buy 2 1 1 -> ok 1 3", "deliver 3 -> ok 2 4", "deliver 4 -> ok 2 1")
		tickets := r.rides(3, 1)
		r.do(injectLine(1, tickets[0]))
		r.do(kind)
		bag := r.f.Bag()
		r.do(fmt.Sprintf("deliver %d", bag[0].ID))
		// Gate 2 hears of it from gate 1, gate 3 not at all.
		r.do("gossip 1 2")
		for _, m := range r.f.Bag() {
			if m.From == 1 && m.To == 2 {
				r.do(fmt.Sprintf("deliver %d", m.ID))
			}
		}
		for range 2 {
			for gate := 1; gate <= 2; gate++ {
				for _, ticket := range tickets {
					if got := r.do(injectLine(gate, ticket)); got != "error 191" && got != "error 192" && got != "error 172" {
						t.Errorf("P26.18: behind %s a ticket at gate %d = %s", kind, gate, got)
					}
				}
				r.all(fmt.Sprintf("restart %d -> ok", gate))
			}
		}
		r.given(3, tickets[2], "ok 1 3", "accept 3 serial 1 index 3", "store 3 serial 1 index 3")
		if reply := r.f.Do(op(t, "ride 2 2 1")); reply.Err != api.OK || r.do(fmt.Sprintf("deliver %d", reply.Nums[2])) != "ok 2 1" {
			t.Errorf("P26.18: behind %s another carnet is not served", kind)
		}
		if got := accepted(r, 1, 1); !slices.Equal(got, []int{1}) {
			t.Errorf("P26.18: behind %s accepted are %d", kind, got)
		}
	}
}

// TestRevealedP26_19 is W6: whoever has seen all that was told has no ticket above it, nor an entry, nor an acknowledgement.
func TestRevealedP26_19(t *testing.T) {
	r := begin(t, config).all("buy 1 6 10 -> ok 1 1", "deliver 1 -> ok 1 2", "deliver 2 -> ok 1 1")
	ticket, _ := terms.DecodeTicket(r.rides(2, 1)[1])
	cert := ticket.Cert
	// All values of the chain that follow from what was told, and some more.
	values := []api.Hash{ticket.Value, cert.Anchor, {}, {1}, seed(config, 1), api.Hash(cert.Sig[:32])}
	r.given(1, told(terms.EncodeTicket, ticket), "ok 1 2", "accept 1 serial 1 index 2", "store 1 serial 1 index 2")
	for gate := 1; gate <= 2; gate++ {
		for index := 3; index <= 6; index++ {
			for _, v := range values {
				r.given(gate, told(terms.EncodeTicket, api.Ticket{Cert: cert, Index: index, Value: v}), "error 150")
				r.given(gate, told(terms.EncodeEntry, api.Entry{Cert: cert, Index: index, Value: v}), "error 150")
			}
		}
	}
	r.all("freeze 1 -> ok 1 5 6")
	for index := 3; index <= 6; index++ {
		for _, v := range values {
			// By a gate's own key, too: an acknowledgement must show the value.
			r.given(0, told(terms.EncodeAck, ring.SealAck(seed(config, 2), api.Ack{Serial: 1, Gate: 2, Index: index, Value: v})), "error 150")
		}
	}
	r.all("deliver 5 -> ok 1 2 7", "deliver 6 -> ok 1 0 8", "deliver 7 -> ok 1 2 1", "deliver 8 -> ok 1 2 0", "pay 1 -> ok 4 40 9")
}

// TestFirstToldP26_19: an enemy who orders a wallet's anchor ahead of it, seen in the order that it has told, gains nothing by it.
func TestFirstToldP26_19(t *testing.T) {
	r := begin(t, config).all("buy 1 3 10 -> ok 1 1")
	order := r.f.Bag()[0].Body
	r.given(0, order, "ok 1 0", "issue 0 serial 1 index 3 amount 10", "out 0 cert")
	cert, _ := terms.DecodeCert(r.f.Trace()[3].Body)
	for index := 1; index <= 3; index++ {
		r.given(1, told(terms.EncodeTicket, api.Ticket{Cert: cert, Index: index, Value: cert.Anchor}), "error 150")
	}
	r.all("deliver 1 -> ok 1 2", "deliver 2 -> ok 1 1", "ride 1 1 1 -> ok 1 1 3", "deliver 3 -> ok 1 1")
}

// TestReasonsP26_20: what is refused has its number, and changes nothing.
func TestReasonsP26_20(t *testing.T) {
	c := config
	c.Rows = 1
	r := sold(t, c).all("buy 2 1 1 -> ok 1 3", "deliver 3 -> ok 2 4", "deliver 4 -> ok 2 1", "ride 1 1 1 -> ok 1 1 5", "deliver 5 -> ok 1 1", "ride 2 2 1 -> ok 2 1 6")
	was := lookAt(c, r.f)
	r.all("deliver 6 -> error 170", "revoke 2 -> ok 2 7 8", "deliver 7 -> error 170")
	if got, _ := r.f.Gate(1); !sameGate(got, was.kept[1].gate) {
		t.Errorf("P26.20: a full table has changed: %+v", got)
	}
	c = config
	c.Serials = 1
	r = sold(t, c).all("buy 1 1 1 -> ok 2 3", "deliver 3 -> error 230", injectLine(0, theirs.order())+" -> error 230", "money -> ok 300 300 0", "floor 3 -> error 2", "floor 2 -> ok 2 4 5")
	r.all(injectLine(0, theirs.order())+" -> error 230", "freeze 1 -> error 172")
	refused := foreign{chain: theirs.chain, rides: theirs.rides, price: 1}
	r = begin(t, config).all(injectLine(0, theirs.order())+" -> ok 1 0", injectLine(0, refused.order())+" -> error 231")
}

// untilFull does lines till one is refused for want of room on the flash; it tells how many were done.
func (r *rig) untilFull(line func(k int) string) int {
	r.t.Helper()
	for k := range 50 {
		switch got := r.do(line(k)); {
		case got == "error 193":
			return k
		case got[:2] != "ok":
			r.t.Fatalf("P26.20: %s = %s", line(k), got)
		}
	}
	r.t.Fatal("P26.20: a small flash takes all there is")
	return 0
}

// TestNoRoomP26_20: flashes without room: each node says so, and goes on with what needs none.
func TestNoRoomP26_20(t *testing.T) {
	c := config
	c.Flash, c.Rows, c.Serials = 512, 100, 100
	r := begin(t, c)
	k := r.untilFull(func(int) string { return "buy 1 1 1" })
	r.still("buy 1 4096 1", "error 193")
	r.all("restart 3 -> ok")
	r.still("buy 1 1 1", "error 193")
	sales := r.untilFull(func(k int) string { return injectLine(0, foreign{chain: api.Hash{8, byte(k)}, rides: 1}.order()) })
	s, _ := r.f.Issuer()
	if sales == 0 || len(s.Carnets) != sales || len(s.Leaves) != sales {
		t.Errorf("P26.20: behind %d sales the issuer keeps %d carnets", sales, len(s.Carnets))
	}
	rows := r.untilFull(func(k int) string { return injectLine(1, theirs.entry(c, k+1, 1)) })
	was := lookAt(c, r.f)
	for _, body := range [][]byte{theirs.entry(c, 9, 0), theirs.freeze(c, 8), theirs.ticket(c, 7, 1)} {
		if got := r.do(injectLine(1, body)); got != "error 193" || !sameLook(lookAt(c, r.f), was) {
			t.Errorf("P26.20: a gate without room = %s", got)
		}
	}
	if got, _ := r.f.Gate(1); rows == 0 || len(got.Rows) != rows {
		t.Errorf("P26.20: behind %d entries a gate keeps %d", rows, len(got.Rows))
	}
	r.all(injectLine(1, theirs.entry(c, 1, 1))+" -> ok 1 1 0", fmt.Sprintf("bag -> ok %d %d", k, 4096-k))
}

// TestServedP26_21: a ticket of a carnet in good standing, above the stored index, by however much, by whomever it is brought.
func TestServedP26_21(t *testing.T) {
	for stored := range 5 {
		for index := 1; index <= 5; index++ {
			r := begin(t, config)
			r.do(injectLine(2, floorBody(config, 3)))
			if stored > 0 {
				r.all(injectLine(2, theirs.entry(config, 3, stored)) + fmt.Sprintf(" -> ok 3 %d 1", stored))
			}
			want := "error 190"
			if index > stored {
				want = fmt.Sprintf("ok 3 %d", index)
			}
			r.all(injectLine(2, theirs.ticket(config, 3, index)) + " -> " + want)
			// Another certificate of the serial is refused, unlike in its signature alone too.
			other := theirs
			other.price++
			r.all(injectLine(2, other.ticket(config, 3, 5)) + " -> " + map[bool]string{true: "error 171", false: "ok 3 5"}[stored > 0 || index > 0])
		}
	}
}

// TestConvergeP26_21 is W8: gates that tell one another all they know, in messages that are delivered in any order, some of them twice, come to know the same: the join of what they knew.
func TestConvergeP26_21(t *testing.T) {
	c := api.Config{Gates: 4, Wallets: 1, Rows: 10, Flash: 20000, Serials: 20, Secret: api.Hash{26, 8}}
	for n := range uint64(20) {
		d := chance(n)
		r := begin(t, c)
		for range 25 {
			serial, index := 1+d.IntN(9), d.IntN(6)
			body := [][]byte{theirs.entry(c, serial, index), theirs.ticket(c, serial, max(1, index)), theirs.freeze(c, serial), theirs.revocation(c, serial), theirs.flagged(c, serial, index, true), floorBody(c, 1+d.IntN(4))}[min(d.IntN(8), 5-d.IntN(2))]
			r.do(injectLine(1+d.IntN(4), body))
		}
		want, _ := r.f.Gate(1)
		for gate := 2; gate <= 4; gate++ {
			s, _ := r.f.Gate(gate)
			both, err := table.JoinAll(want, s)
			if err != api.OK {
				t.Fatalf("the join: %d", err)
			}
			want = both
		}
		for from := 1; from <= 4; from++ {
			for to := 1; to <= 4; to++ {
				if from != to && r.do(fmt.Sprintf("gossip %d %d", from, to))[:2] != "ok" {
					t.Fatal("gossip")
				}
			}
		}
		for _, m := range r.f.Bag() {
			if d.IntN(4) == 0 && m.From != 0 {
				r.do(fmt.Sprintf("double %d", m.ID))
			}
		}
		bag := slices.DeleteFunc(r.f.Bag(), func(m api.Message) bool { return m.To == 0 }) // acknowledgements are no gossip
		d.Shuffle(len(bag), func(i, k int) { bag[i], bag[k] = bag[k], bag[i] })
		for _, m := range bag {
			r.do(fmt.Sprintf("deliver %d", m.ID))
		}
		for gate := 1; gate <= 4; gate++ {
			if s, _ := r.f.Gate(gate); s.Floor != want.Floor || !slices.Equal(s.Rows, want.Rows) {
				t.Errorf("P26.21: gate %d knows %+v, want %+v", gate, s, want)
			}
		}
	}
}

// TestPaidP26_21 is W8: a carnet whose freeze has come to all gates, and whose acknowledgements have come back in any order, some of them twice, is paid: the rides above the greatest index that a gate had stored.
func TestPaidP26_21(t *testing.T) {
	c := api.Config{Gates: 4, Wallets: 2, Rows: 3, Flash: 20000, Serials: 4, Secret: api.Hash{26, 9}}
	for n := range uint64(20) {
		d := chance(n)
		r := begin(t, c).all("buy 2 9 50 -> ok 1 1", "deliver 1 -> ok 1 2", "deliver 2 -> ok 1 1")
		for range d.IntN(10) {
			if reply := r.f.Do(op(t, fmt.Sprintf("ride 2 1 %d", 1+d.IntN(4)))); reply.Err == api.OK && d.IntN(4) > 0 {
				r.do(fmt.Sprintf("deliver %d", reply.Nums[2]))
			}
		}
		r.do("freeze 1")
		top, again := 0, 2
		for bag := r.f.Bag(); len(bag) > 0; bag = r.f.Bag() {
			m := bag[d.IntN(len(bag))]
			if ack, err := terms.DecodeAck(m.Body); err == api.OK {
				top = max(top, ack.Index)
			}
			if d.IntN(5) == 0 {
				r.do(fmt.Sprintf("double %d", m.ID))
			}
			if again > 0 && d.IntN(3) == 0 {
				again--
				r.do("freeze 1") // which takes nothing back
			}
			r.do(fmt.Sprintf("deliver %d", m.ID))
		}
		stored := 0
		for gate := 1; gate <= 4; gate++ {
			s, _ := r.f.Gate(gate)
			row, _ := table.Find(s, 1)
			stored = max(stored, row.Index)
		}
		if stored != top {
			t.Errorf("P26.17: acknowledged is %d, stored %d", top, stored)
		}
		if got, want := r.do("pay 1"), fmt.Sprintf("ok %d %d ", 9-top, 50*(9-top)); !strings.HasPrefix(got, want) {
			t.Errorf("P26.21: pay 1 = %s, want %s..", got, want)
		}
	}
}

// TestBooksW9: cash is what was paid for carnets less what was paid back, unearned are the rides of those that are issued or freezing; across a crash under each move.
func TestBooksW9(t *testing.T) {
	for keep := range 2 {
		r := begin(t, config)
		cut := func(line, want string) {
			t.Helper()
			r.all(fmt.Sprintf("crash 0 1 %d -> ok", keep*5000), line+" -> "+down, "restart 0 -> ok")
			if keep == 0 {
				if got := r.do(line); got[:2] != "ok" {
					t.Fatalf("%s = %s", line, got)
				}
			}
			r.all("money -> " + want)
		}
		a, b := foreign{chain: api.Hash{1}, rides: 4, price: 25}, foreign{chain: api.Hash{2}, rides: 2, price: 500}
		cut(injectLine(0, a.order()), "ok 100 100 0")
		cut(injectLine(0, b.order()), "ok 1100 1100 0")
		cut("freeze 1", "ok 1100 1100 0")
		cut(injectLine(0, a.ack(config, 1, 1, 3)), "ok 1100 1100 0")
		cut(injectLine(0, a.ack(config, 1, 2, 1)), "ok 1100 1100 0")
		cut("pay 1", "ok 1075 1000 75")
		cut("revoke 2", "ok 1075 0 1075")
		s, _ := r.f.Issuer()
		if sum := s.Book.Net[0] + s.Book.Net[1] + s.Book.Net[2]; sum != 0 || len(s.Carnets) != 2 || s.Carnets[0].Paid != 25 {
			t.Errorf("W9: the books are %d, the carnets %+v", s.Book.Net, s.Carnets)
		}
	}
}

package gate_test

import (
	"bytes"
	"math"
	"slices"
	"testing"

	"farebox/api"
	"farebox/flash"
	"farebox/gate"
	"farebox/terms"
)

// handed is a list with other bytes ahead of it and behind it in its memory, and all of that memory.
func handed(b string) (piece, all []byte) {
	all = []byte("<<<<<<<<" + b + ">>>>>>>>>>>>>>>>>>>>>>>>")
	return all[8 : 8+len(b)], all
}

// wreckBytes writes over a list and over its spare room.
func wreckBytes(b []byte) {
	b = b[:cap(b)]
	for i := range b {
		b[i] = '!'
	}
}

// wreck writes over all of an answer.
func wreck(a api.Answer) {
	nums, out := a.Nums[:cap(a.Nums)], a.Out[:cap(a.Out)]
	for i := range nums {
		nums[i] = -7
	}
	for i := range out {
		wreckBytes(out[i].Body)
		out[i] = api.Message{ID: 7, From: 7, To: 7}
	}
}

// stray is a row that stands in no state.
var stray = api.Entry{Cert: api.Cert{Serial: 99, Rides: 9}, Index: 9, Frozen: true}

// wreckState writes over all of a state's rows, and over their spare room.
func wreckState(s api.GateState) {
	rows := s.Rows[:cap(s.Rows)]
	for i := range rows {
		rows[i] = stray
	}
}

// TestStateHandedInP19_1: the rows of a state are left as they are, what lies beside them too, by calls that change something, that change nothing and that refuse; what is answered is new memory, of which nothing is written over by later calls.
func TestStateHandedInP19_1(t *testing.T) {
	c := cert(3)
	full := []api.Entry{at(cert(2), 1), at(c, 2), frozen(at(cert(6), 1)), revoked(at(cert(8), 0))}
	calls := map[string]func(s api.GateState, bound int) (api.GateState, bool, api.Errno){}
	for name, x := range map[string]api.Ticket{
		"a ride": ticketOf(c, 3), "a new row": ticketOf(cert(5), 3), "no new index": ticketOf(c, 1), "frozen": ticketOf(cert(6), 2),
		"revoked": ticketOf(cert(8), 2), "out of range": {}, "unsigned": {Cert: turned(c), Index: 3}, "another": ticketOf(otherCert(c), 3), "off the chain": {Cert: c, Index: 3}, "below": ticketOf(cert(1), 1),
	} {
		calls["Decide, "+name] = func(s api.GateState, bound int) (api.GateState, bool, api.Errno) {
			after, err := gate.Decide(keys(), s, bound, x)
			return after, err == api.OK, err
		}
	}
	for name, x := range map[string]api.Entry{"more": at(c, 4), "nothing new": at(c, 1), "a new row": frozen(at(cert(4), 1)), "refused": {}, "another": at(otherCert(c), 1), "below": at(cert(1), 1)} {
		calls["Learn, "+name] = func(s api.GateState, bound int) (api.GateState, bool, api.Errno) {
			return gate.Learn(keys(), s, bound, x)
		}
	}
	for name, x := range map[string]api.Cert{"a row": c, "frozen": cert(6), "revoked": cert(8), "a new row": cert(4), "out of range": {}, "unsigned": turned(c), "another": otherCert(c), "below": cert(1)} {
		calls["Freeze, "+name] = func(s api.GateState, bound int) (api.GateState, bool, api.Errno) {
			return gate.Freeze(keys(), s, bound, freezeOf(x))
		}
		calls["Revoke, "+name] = func(s api.GateState, bound int) (api.GateState, bool, api.Errno) {
			return gate.Revoke(keys(), s, bound, revocationOf(x))
		}
	}
	for name, x := range map[string]api.Floor{"out of range": {}, "unsigned": {Floor: 4}, "below": floorAt(1), "the same": floorAt(2), "above": floorAt(3), "above all": floorAt(9)} {
		calls["Raise, "+name] = func(s api.GateState, bound int) (api.GateState, bool, api.Errno) {
			return gate.Raise(keys(), s, x)
		}
	}
	for name, call := range calls {
		for n := range len(full) + 1 {
			for _, bound := range []int{0, 9} {
				all := slices.Concat([]api.Entry{stray}, full[:n], []api.Entry{stray, stray, stray})
				was := slices.Clone(all)
				s := api.GateState{Floor: floorAt(2), Accepted: 3, Rows: all[1 : 1+n]}
				got, is, err := call(s, bound)
				copied := got
				copied.Rows = slices.Clone(got.Rows)
				if err != api.OK && (is || !sameState(got, s)) {
					t.Errorf("P19.1: %s refused by %d answers %+v, %v", name, err, got, is)
				}
				second, _, _ := call(s, bound)
				wreckState(second)
				if !slices.Equal(all, was) {
					t.Fatalf("P19.1: %s has changed what was handed in, or answers it", name)
				}
				for i := range all {
					all[i] = stray
				}
				wantState(t, "P19.1: "+name+": what was handed in is written over", got, copied)
			}
		}
	}
}

// TestEmptyRowsP19_1: no rows and nil are the same.
func TestEmptyRowsP19_1(t *testing.T) {
	room := []api.Entry{stray, stray}
	for _, rows := range [][]api.Entry{nil, {}, room[:0], room[1:1]} {
		s := api.GateState{Rows: rows}
		one, err := gate.Decide(keys(), s, 1, ticketOf(cert(3), 1))
		wantState(t, "P19.1: no rows", one, api.GateState{Accepted: 1, Rows: []api.Entry{at(cert(3), 1)}})
		two, _, err2 := gate.Learn(keys(), s, 1, at(cert(3), 1))
		wantState(t, "P19.1: no rows", two, api.GateState{Rows: []api.Entry{at(cert(3), 1)}})
		none, err3 := gate.Decide(keys(), s, 1, api.Ticket{})
		wantState(t, "P19.1: no rows", none, api.GateState{})
		_ = append(none.Rows, at(cert(3), 1))
		if err != api.OK || err2 != api.OK || err3 != api.ErrArg || room[0] != stray || room[1] != stray {
			t.Errorf("P19.1: %d, %d, %d, %+v", err, err2, err3, room)
		}
	}
}

// TestEndsP19_1: calls with values at the ends of their ranges, and states that nobody has made, end.
func TestEndsP19_1(t *testing.T) {
	ints := []int{math.MinInt, -1, 0, 1, 3, 4096, 65536, 1 << 32, math.MaxInt}
	rows := [][]api.Entry{nil, {{}}, {stray, {}, stray}, {at(cert(3), 1), at(cert(3), 1)}, {at(cert(9), 1), at(cert(3), 9)}, {{Cert: cert(3), Index: -5}}, {{Cert: cert(3), Index: math.MinInt}}, {{Cert: cert(3), Index: 4097}}}
	for _, list := range rows {
		for _, n := range ints {
			s := api.GateState{Floor: api.Floor{Floor: n}, Accepted: n, Rows: list}
			for _, bound := range ints {
				c := cert(3)
				c.Serial, c.Rides, c.Price = n, bound, int64(n)
				gate.Decide(keys(), s, bound, api.Ticket{Cert: c, Index: n})
				gate.Decide(keys(), s, bound, ticketOf(cert(3), 2))
				gate.Learn(keys(), s, bound, api.Entry{Cert: c, Index: bound})
				gate.Freeze(keys(), s, bound, api.Freeze{Cert: c})
				gate.Revoke(api.Ring{}, s, bound, api.Revocation{Cert: c})
				gate.Raise(keys(), s, api.Floor{Floor: bound})
			}
			gate.Learn(keys(), s, 4, at(cert(3), 2))
			gate.Freeze(keys(), s, 4, freezeOf(cert(3)))
			gate.Revoke(keys(), s, 4, revocationOf(cert(3)))
			gate.Raise(keys(), s, floorAt(4))
		}
	}
	// A gate that has counted as far as can be counted: it ends, whatever it answers.
	g := open(t, flash.Load(4096, bank(1, snapshotOf(math.MaxInt, "")), nil))
	for range 2 {
		for _, body := range messages() {
			g.Take([]byte(body))
		}
		g.State()
		g.Send(1)
	}
}

// TestHandedInP19_1: a message that is taken is left as it is, what lies beside it too, and is not kept, whatever is answered.
func TestHandedInP19_1(t *testing.T) {
	c := cert(3)
	p := begin(t, 4096)
	bad := freezeOf(c)
	bad.Sig[3] ^= 1
	met := map[api.Errno]int{}
	for _, body := range []string{
		tellTicket(ticketOf(c, 2)), tellTicket(ticketOf(c, 2)), tellEntry(at(c, 3)), tellEntry(at(c, 3)), tellFreeze(freezeOf(c)), tellFreeze(freezeOf(c)), tellTicket(ticketOf(c, 4)),
		tellRevocation(revocationOf(c)), tellFloor(floorAt(2)), tellFloor(floorAt(2)), tellFloor(floorAt(1)), tellFreeze(bad), "", "FB\x01\x01", string(make([]byte, 1025)), tellEntry(at(otherCert(c), 1)),
	} {
		b, all := handed(body)
		was := bytes.Clone(all)
		got, want := p.g.Take(b), p.m.take([]byte(body))
		if !sameAnswer(got, want) {
			t.Fatalf("P19.7: Take = %+v, want %+v", got, want)
		}
		met[got.Err]++
		if !bytes.Equal(all, was) {
			t.Fatalf("P19.1: Take of %x has changed what was handed in", body)
		}
		wreckBytes(all)
		p.wantAll("P19.1: what was handed in is written over")
		p.send(1)
	}
	if met[api.OK] != 8 || len(met) != 9 {
		t.Errorf("answers: %v", met)
	}
}

// TestRingNotKeptP19_1: the ring is left as it is, its spare room too, and is not kept; nor is the list of summaries.
func TestRingNotKeptP19_1(t *testing.T) {
	all := slices.Concat([]api.Key{{1}}, keys().Gates, []api.Key{{2}, {3}})
	was := slices.Clone(all)
	r := api.Ring{Issuer: keys().Issuer, Gates: all[1 : 1+config.Gates]}
	g, err := gate.Open(config, r, number, flash.New(4096))
	if err != api.OK {
		t.Fatalf("P19.6: Open = %d", err)
	}
	s, _, err := gate.Learn(r, g.State(), 4, frozen(at(cert(3), 1)))
	if err != api.OK || len(s.Rows) != 1 || !slices.Equal(all, was) {
		t.Fatalf("P19.1: %d, or the ring was changed", err)
	}
	for i := range all {
		all[i] = api.Key{9}
	}
	r.Issuer = api.Key{9}
	for what, body := range messages() {
		if a := g.Take([]byte(body)); a.Err != api.OK && a.Err != api.ErrFrozen && a.Err != api.ErrGone && a.Err != api.ErrIndex {
			t.Errorf("P19.1: %s behind a ring that was written over = %d", what, a.Err)
		}
	}
	list := []api.Summary{{Serial: 9, Index: 9}, {Serial: 3, Index: 1}, {Serial: 3, Frozen: true}, {Serial: 3, Index: 4, Revoked: true}, {Serial: 9, Index: 9}}
	same := slices.Clone(list)
	g.SendLacking(1, list[1:3])
	if !slices.Equal(list, same) {
		t.Errorf("P19.1: SendLacking has changed its summaries: %v", list)
	}
}

// TestAnswersP19_1: answers that are written over change nothing that comes later, and no later call changes an answer.
func TestAnswersP19_1(t *testing.T) {
	p := begin(t, 1500)
	var kept, copies []api.Answer
	had := func(a api.Answer) {
		b := api.Answer{Err: a.Err, Nums: slices.Clone(a.Nums)}
		for _, m := range a.Out {
			m.Body = bytes.Clone(m.Body)
			b.Out = append(b.Out, m)
		}
		kept, copies = append(kept, a), append(copies, b)
	}
	var states, stateCopies []api.GateState
	step := func(body string) {
		t.Helper()
		had(p.take(body))
		wreck(p.take(body))
		had(p.send(1))
		wreck(p.send(3))
		had(p.sendLacking(1, api.Summary{Serial: 3}))
		wreck(p.sendLacking(1))
		s := p.g.State()
		states = append(states, s)
		s.Rows = slices.Clone(s.Rows)
		stateCopies = append(stateCopies, s)
		wreckState(p.g.State())
		p.wantAll("P19.9: a state is written over")
	}
	step(tellFloor(floorAt(2)))
	for index := 1; index <= 4; index++ {
		step(tellTicket(ticketOf(cert(3), index)))
		step(tellEntry(at(cert(5), index)))
	}
	step(tellFreeze(freezeOf(cert(3))))
	step(tellRevocation(revocationOf(cert(5))))
	step(tellFloor(floorAt(4)))
	for i := range kept {
		if !sameAnswer(kept[i], copies[i]) {
			t.Errorf("P19.1: answer %d has changed: %+v, was %+v", i, kept[i], copies[i])
		}
	}
	for i := range states {
		wantState(t, "P19.9: an earlier state", states[i], stateCopies[i])
	}
	p.g = open(t, p.f)
	p.wantAll("P19.6: Open")
}

// TestSpareRoomP19_1: what is laid behind an answer's lists writes over nothing.
func TestSpareRoomP19_1(t *testing.T) {
	p := stocked(t)
	a := p.send(1)
	want := make([]string, len(a.Out))
	for i, m := range a.Out {
		want[i] = string(m.Body)
	}
	for _, m := range a.Out {
		_ = append(m.Body, "????????????????????????"...)
	}
	_ = append(a.Nums, -1, -1)
	_ = append(a.Out, api.Message{To: 9})
	_ = append(p.g.State().Rows, stray)
	for i, m := range a.Out {
		if string(m.Body) != want[i] {
			t.Errorf("P19.1: message %d has changed", i)
		}
	}
	p.wantAll("P19.1: lists that were laid behind")
	p.ticket(cert(3), 5)
}

// TestTwoGatesP19_1: two gates share nothing, and the same calls answer the same.
func TestTwoGatesP19_1(t *testing.T) {
	p, q := stocked(t), begin(t, 4096)
	wantState(t, "the other one", q.g.State(), api.GateState{})
	q.ticket(cert(3), 1)
	p.wantAll("P19.1: beside another one")
	var acks []string
	for range 3 {
		a := stocked(t).freeze(cert(3))
		if ack, err := terms.DecodeAck(a.Out[0].Body); err != api.OK || ack.Index != 2 {
			t.Errorf("P19.7: %+v, %d", ack, err)
		}
		acks = append(acks, string(a.Out[0].Body))
	}
	if acks[0] != acks[1] || acks[1] != acks[2] {
		t.Error("P19.1: the same calls answer acknowledgements that are not the same")
	}
}

package wallet_test

import (
	"bytes"
	"slices"
	"testing"

	"farebox/api"
	"farebox/flash"
	"farebox/terms"
	"farebox/wallet"
)

// handed is a list with other bytes ahead of it and behind it in its memory, and all of that memory.
func handed(b string) (piece, all []byte) {
	all = []byte("<<<<<<<<" + b + ">>>>>>>>>>>>>>>>>>>>>>>>")
	return all[8 : 8+len(b)], all
}

// wreckBytes writes over a list and over its spare room.
func wreckBytes(b []byte) {
	b = b[:cap(b)]
	for i := range b {
		b[i] = '!'
	}
}

// wreck writes over all of an answer.
func wreck(a api.Answer) {
	nums, out := a.Nums[:cap(a.Nums)], a.Out[:cap(a.Out)]
	for i := range nums {
		nums[i] = -7
	}
	for i := range out {
		wreckBytes(out[i].Body)
		out[i] = api.Message{ID: 7, From: 7, To: 7}
	}
}

// wreckState writes over all of a state.
func wreckState(s api.WalletState) {
	list := s.Purses[:cap(s.Purses)]
	for i := range list {
		list[i] = api.Purse{Chain: 99, Rides: 99, Price: 99, Cert: api.Cert{Serial: 5}, Revealed: 99, Refund: api.Receipt{Serial: 5}}
	}
}

// TestHandedInP18: a message that is taken is left as it is, what lies beside it too, and is not kept, whatever is answered.
func TestHandedInP18(t *testing.T) {
	p := carnets(t, 4096)
	cert, receipt := tell(certFor(9, 3, 3, 250)), tellReceipt(receiptFor(5, 1, 9))
	met := map[api.Errno]int{}
	for _, body := range []string{cert, cert, cert[:50], receipt, receipt, receipt[:80] + "????", "", "FB\x01\x02", string(make([]byte, 1025)), tell(certFor(2, 3, 3, 250)), tell(certFor(2, 9, 3, 250))} {
		b, all := handed(body)
		was := bytes.Clone(all)
		met[p.take(b).Err]++
		if !bytes.Equal(all, was) {
			t.Fatalf("P18: Take of %x has changed what was handed in", body)
		}
		wreckBytes(all)
		p.wantAll("P18: what was handed in is written over")
	}
	if met[api.OK] != 4 || len(met) != 7 {
		t.Errorf("answers: %v", met)
	}
	p.wantNums("Ride", p.ride(9, 1), 9, 1)
}

// TestRingNotKeptP18: the ring is left as it is, its spare room too, and is not kept.
func TestRingNotKeptP18(t *testing.T) {
	all := slices.Concat([]api.Key{{1}}, keys().Gates, []api.Key{{2}, {3}})
	was := slices.Clone(all)
	r := api.Ring{Issuer: keys().Issuer, Gates: all[1 : 1+config.Gates]}
	w, err := wallet.Open(config, r, number, flash.New(4096))
	if err != api.OK || !slices.Equal(all, was) {
		t.Fatalf("P18.1: Open = %d, or has changed the ring", err)
	}
	for i := range all {
		all[i] = api.Key{9}
	}
	r.Issuer = api.Key{9}
	w.Buy(3, 250)
	if a := w.Take([]byte(tell(certFor(5, 1, 3, 250)))); a.Err != api.OK {
		t.Errorf("P18: Take behind a ring that was written over = %d", a.Err)
	}
}

// TestAnswersP18: answers that are written over change nothing that comes later, and no later call changes an answer.
func TestAnswersP18(t *testing.T) {
	p := begin(t, 600)
	var kept, copies []api.Answer
	// had keeps an answer, and a copy of it; a second answer of the same kind is written over.
	had := func(a api.Answer) {
		b := api.Answer{Err: a.Err, Nums: slices.Clone(a.Nums)}
		for _, m := range a.Out {
			m.Body = bytes.Clone(m.Body)
			b.Out = append(b.Out, m)
		}
		kept, copies = append(kept, a), append(copies, b)
	}
	var states, stateCopies []api.WalletState
	for range 3 {
		had(p.buy(30, 250))
		wreck(p.buy(30, 250))
		s := p.w.State()
		states, stateCopies = append(states, s), append(stateCopies, api.WalletState{Purses: slices.Clone(s.Purses)})
		wreckState(p.w.State())
		p.wantAll("P18.6: a state is written over")
	}
	had(p.takeCert(certFor(5, 1, 30, 250)))
	wreck(p.takeCert(certFor(5, 1, 30, 250)))
	for range 12 {
		had(p.ride(5, 1))
		wreck(p.ride(5, 2))
		wreckState(p.w.State())
		p.wantAll("P18.4: a ticket is written over")
	}
	had(p.takeReceipt(receiptFor(5, 3, 3)))
	wreck(p.takeReceipt(receiptFor(5, 3, 3)))
	p.wantAll("P18.5: a receipt's answer is written over")
	for i := range kept {
		if !sameAnswer(kept[i], copies[i]) {
			t.Errorf("P18: answer %d has changed: %+v, was %+v", i, kept[i], copies[i])
		}
	}
	for i := range states {
		wantState(t, "an earlier state", states[i], stateCopies[i].Purses)
	}
	p.w = open(t, p.f)
	p.wantAll("P18.1: Open")
}

// TestSpareRoomP18: what is laid behind an answer's lists writes over nothing.
func TestSpareRoomP18(t *testing.T) {
	p := carnets(t, 4096)
	a, b := p.ride(5, 1), p.ride(5, 2)
	was := string(b.Out[0].Body)
	_ = append(a.Nums, -1, -1, -1)
	_ = append(a.Out, api.Message{To: 9})
	_ = append(a.Out[0].Body, was...)
	_ = append(p.w.State().Purses, api.Purse{Chain: 99})
	if string(b.Out[0].Body) != was || b.Nums[1] != 2 {
		t.Errorf("P18: %+v", b)
	}
	p.wantAll("P18: lists that were laid behind")
}

// TestTwoWalletsP18: two wallets share nothing.
func TestTwoWalletsP18(t *testing.T) {
	p, q := carnets(t, 4096), begin(t, 4096)
	wantState(t, "the other one", q.w.State(), nil)
	q.buy(1, 1)
	p.ride(5, 1)
	q.wantErr("Ride of what the other one has", q.ride(5, 1), api.ErrPurse)
	p.wantAll("P18: beside another one")
}

// TestSameCallsP18: what is answered hangs on the calls alone.
func TestSameCallsP18(t *testing.T) {
	var tickets []string
	for range 3 {
		p := carnets(t, 4096)
		tickets = append(tickets, string(p.ride(6, 2).Out[0].Body))
	}
	if tickets[0] != tickets[1] || tickets[1] != tickets[2] {
		t.Error("P18: the same calls answer tickets that are not the same")
	}
	if x, err := terms.DecodeTicket([]byte(tickets[0])); err != api.OK || x.Index != 1 {
		t.Errorf("P18.4: %+v, %d", x, err)
	}
}

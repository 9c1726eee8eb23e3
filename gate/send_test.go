package gate_test

import (
	"math"
	"testing"

	"farebox/api"
)

// stocked is a gate with three rows: 3 at index 2, 5 frozen, 7 revoked at index 4.
func stocked(t *testing.T) *pair {
	t.Helper()
	p := begin(t, 4096)
	p.ticket(cert(3), 2)
	p.freeze(cert(5))
	p.entry(revoked(at(cert(7), 4)))
	return p
}

// TestToP19_8: to which nodes a gate sends: to the other gates, and not to the issuer, itself, a wallet or nobody.
func TestToP19_8(t *testing.T) {
	p := stocked(t)
	for range 2 {
		p.unwritten("sending", func() {
			for _, to := range []int{math.MinInt, -1, 0, number, config.Gates + 1, config.Gates + 2, 1<<32 + 1, math.MaxInt} {
				p.wantErr("Send", p.send(to), api.ErrArg)
				p.wantErr("SendLacking", p.sendLacking(to), api.ErrArg)
				p.wantErr("SendLacking of all", p.sendLacking(to, api.Summary{Serial: 3, Index: 5}), api.ErrArg)
			}
			for _, to := range []int{1, config.Gates} {
				more := int64(0)
				if p.m.floor.Floor != 0 {
					more = 1
				}
				p.wantNums("Send", p.send(to), 3+more)
				p.wantNums("SendLacking", p.sendLacking(to), 3+more)
			}
		})
		p.floor(2)
	}
}

// TestSendP19_8: with a floor and without, with rows and without; in the rows' order.
func TestSendP19_8(t *testing.T) {
	p := begin(t, 4096)
	p.wantNums("nothing", p.send(1), 0)
	p.floor(2)
	p.wantNums("a floor alone", p.send(1), 1)
	for n, serial := range []int{6, 9, 2, 4} {
		p.ticket(cert(serial), 1+n)
		p.wantNums("a floor and rows", p.send(1), int64(n+2))
	}
	p.floor(5)
	p.wantNums("two rows are dropped", p.send(1), 3)
	p.floor(10)
	p.wantNums("all rows are dropped", p.send(1), 1)
	p = begin(t, 4096)
	p.ticket(cert(6), 1)
	p.wantNums("a row alone", p.send(1), 1)
}

// TestLackingP19_8: what is lacking to somebody who tells one summary of each serial.
func TestLackingP19_8(t *testing.T) {
	for _, floor := range []int64{0, 1} {
		p := stocked(t)
		if floor > 0 {
			p.floor(2)
		}
		sends := func(what string, n int64, has ...api.Summary) {
			t.Helper()
			p.wantNums(what, p.sendLacking(1, has...), n+floor)
		}
		three, five, seven := api.Summary{Serial: 3, Index: 2}, api.Summary{Serial: 5, Frozen: true}, api.Summary{Serial: 7, Index: 4, Revoked: true}
		sends("no summaries", 3)
		sends("nothing is lacking", 0, three, five, seven)
		sends("nor in another order", 0, seven, three, five)
		sends("one alone", 2, five)
		sends("others' serials", 3, api.Summary{Serial: 4, Index: 9, Frozen: true, Revoked: true}, api.Summary{}, api.Summary{Serial: -3, Index: 9}, api.Summary{Serial: math.MaxInt})
		sends("more than there is", 0, api.Summary{Serial: 3, Index: math.MaxInt, Frozen: true, Revoked: true}, api.Summary{Serial: 5, Index: 1, Frozen: true, Revoked: true}, api.Summary{Serial: 7, Index: 5, Frozen: true, Revoked: true})
		sends("an index one below", 1, api.Summary{Serial: 3, Index: 1}, five, seven)
		sends("an index far below", 1, api.Summary{Serial: 3, Index: math.MinInt}, five, seven)
		sends("an index below 0 of one at 0", 1, three, api.Summary{Serial: 5, Index: -1, Frozen: true}, seven)
		sends("the flag Frozen", 1, three, api.Summary{Serial: 5, Index: 9}, seven)
		sends("the flag Frozen, with the other one", 1, three, api.Summary{Serial: 5, Revoked: true}, seven)
		sends("the flag Revoked", 1, three, five, api.Summary{Serial: 7, Index: 9})
		sends("the flag Revoked, with the other one", 1, three, five, api.Summary{Serial: 7, Index: 4, Frozen: true})
		sends("the index, with the flag", 1, three, five, api.Summary{Serial: 7, Index: 3, Revoked: true})
	}
}

// TestUntoldP19_8: a row that says next to nothing is lacking to who tells nothing of its serial, and to nobody else.
func TestUntoldP19_8(t *testing.T) {
	p := begin(t, 4096)
	p.entry(at(cert(3), 0))
	p.wantNums("nothing is told", p.sendLacking(1), 1)
	p.wantNums("of others alone", p.sendLacking(1, api.Summary{Serial: 2, Index: 5}, api.Summary{Serial: 4}), 1)
	p.wantNums("index 0", p.sendLacking(1, api.Summary{Serial: 3}), 0)
	p.wantNums("an index below 0", p.sendLacking(1, api.Summary{Serial: 3, Index: -1, Frozen: true, Revoked: true}), 1)
}

// TestTogetherP19_8: summaries of one serial are taken together, in whatever order.
func TestTogetherP19_8(t *testing.T) {
	p := begin(t, 4096)
	p.entry(revoked(frozen(at(cert(3), 3))))
	parts := []api.Summary{{Serial: 3, Index: 3}, {Serial: 3, Index: -1, Frozen: true}, {Serial: 3, Index: 2, Revoked: true}, {Serial: 4, Index: 5, Frozen: true, Revoked: true}}
	for set := range 16 {
		var has, back []api.Summary
		for i, x := range parts {
			if set&(1<<i) != 0 {
				has, back = append(has, x, x), append([]api.Summary{x}, back...)
			}
		}
		want := int64(1)
		if set&7 == 7 {
			want = 0
		}
		p.wantNums("together", p.sendLacking(1, has...), want)
		p.wantNums("the other way round", p.sendLacking(3, back...), want)
	}
}

// TestByChanceP19_8: summaries by chance, against the model.
func TestByChanceP19_8(t *testing.T) {
	r := chance(8)
	p := begin(t, 4096)
	p.ticket(cert(2), 2)
	p.entry(frozen(at(cert(3), 1)))
	p.entry(revoked(at(cert(4), 4)))
	p.entry(revoked(frozen(at(cert(5), 0))))
	met := map[int64]int{}
	for range 2000 {
		var has []api.Summary
		for range r.IntN(9) {
			has = append(has, api.Summary{Serial: 1 + r.IntN(6), Index: r.IntN(6) - 1, Frozen: r.IntN(2) == 0, Revoked: r.IntN(2) == 0})
		}
		met[p.sendLacking(1+2*r.IntN(2), has...).Nums[0]]++
	}
	if len(met) != 5 {
		t.Errorf("%v", met)
	}
}

// TestGossipP19_8: what one gate sends, another one takes, and then both know the same; what is lacking behind that is nothing but the floor.
func TestGossipP19_8(t *testing.T) {
	p, q := stocked(t), begin(t, 4096)
	p.floor(2)
	q.ticket(cert(3), 1)
	q.ticket(cert(9), 3)
	for range 2 {
		for _, m := range p.send(1).Out {
			if a := q.take(string(m.Body)); a.Err != api.OK {
				t.Fatalf("P19.8: %d", a.Err)
			}
		}
		p, q = q, p
	}
	a, b := p.g.State(), q.g.State()
	a.Accepted, b.Accepted = 0, 0
	wantState(t, "P19.8: both know the same", a, b)
	var has []api.Summary
	for _, e := range b.Rows {
		has = append(has, api.Summary{Serial: e.Cert.Serial, Index: e.Index, Frozen: e.Frozen, Revoked: e.Revoked})
	}
	p.wantNums("nothing is lacking", p.sendLacking(1, has...), 1)
}

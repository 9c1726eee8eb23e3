package gate_test

import (
	"slices"
	"testing"

	"farebox/api"
	"farebox/flash"
	"farebox/gate"
	"farebox/ring"
	"farebox/terms"
)

// TestExamplesP19: the chapter's examples, row by row.
func TestExamplesP19(t *testing.T) {
	cfg := api.Config{Gates: 2, Wallets: 1, Rows: 2, Flash: 4096, Serials: 9}
	keys, _ := ring.Make(cfg)
	issuer, _ := ring.Seed(cfg, 0)
	carnet := func(serial int) api.Cert {
		return ring.SealCert(issuer, api.Cert{Serial: serial, Rides: 5, Price: 100, Anchor: value(serial, 5, 0)})
	}
	c, d, e := carnet(3), carnet(4), carnet(5)
	ice := tellFreeze(ring.SealFreeze(issuer, api.Freeze{Cert: c}))
	floor := func(n int) api.Floor { return ring.SealFloor(issuer, api.Floor{Floor: n}) }
	order := told(terms.EncodeOrder, api.Order{Rides: 1})

	g, err := gate.Open(cfg, keys, 1, flash.New(4096))
	if err != api.OK {
		t.Fatalf("P19.6: Open = %d", err)
	}
	wantState(t, "a new flash", g.State(), api.GateState{})
	takes := func(body string, want api.Errno, nums ...int64) api.Answer {
		t.Helper()
		a := g.Take([]byte(body))
		if a.Err != want || !slices.Equal(a.Nums, nums) || want != api.OK && len(a.Out) > 0 {
			t.Errorf("P19.7: Take = %d %v, want %d %v", a.Err, a.Nums, want, nums)
		}
		return a
	}
	ride := func(c api.Cert, index, from int) string {
		return tellTicket(api.Ticket{Cert: c, Index: index, Value: value(c.Serial, 5, from)})
	}
	takes(ride(c, 2, 2), api.OK, 3, 2)
	wantState(t, "a ride", g.State(), api.GateState{Accepted: 1, Rows: []api.Entry{at(c, 2)}})
	takes(ride(c, 2, 2), api.ErrIndex)
	takes(ride(c, 1, 1), api.ErrIndex)
	takes(ride(c, 3, 2), api.ErrChain)
	takes(tellEntry(at(c, 4)), api.OK, 3, 4, 1)
	takes(tellEntry(at(c, 4)), api.OK, 3, 4, 0)
	takes(ride(c, 4, 4), api.ErrIndex)
	for range 2 {
		a := takes(ice, api.OK, 3, 4)
		if len(a.Out) != 1 || a.Out[0].ID != 0 || a.Out[0].From != 1 || a.Out[0].To != 0 {
			t.Fatalf("P19.7: a freeze sends %+v", a.Out)
		}
		ack, err := terms.DecodeAck(a.Out[0].Body)
		if err != api.OK || ack != (api.Ack{Serial: 3, Gate: 1, Index: 4, Value: value(3, 5, 4), Sig: ack.Sig}) || !ring.CheckAck(keys, ack) {
			t.Errorf("P19.7: the acknowledgement %+v, %d", ack, err)
		}
		takes(ride(c, 5, 5), api.ErrFrozen)
	}
	takes(ride(d, 1, 1), api.OK, 4, 1)
	takes(ride(e, 1, 1), api.ErrRows)
	takes(tellFloor(floor(4)), api.OK, 4)
	wantState(t, "a floor", g.State(), api.GateState{Floor: floor(4), Accepted: 2, Rows: []api.Entry{at(d, 1)}})
	takes(tellFloor(floor(4)), api.OK, 4)
	takes(tellFloor(floor(3)), api.ErrFloor)
	takes(ride(c, 5, 5), api.ErrFloor)
	takes(order, api.ErrDomain)
	takes("", api.ErrForm)

	sends := func(a api.Answer, bodies ...string) {
		t.Helper()
		want := api.Answer{Nums: []int64{int64(len(bodies))}}
		for _, b := range bodies {
			want.Out = append(want.Out, api.Message{From: 1, To: 2, Body: []byte(b)})
		}
		if !sameAnswer(a, want) {
			t.Errorf("P19.8: %+v, want %+v", a, want)
		}
	}
	sends(g.Send(2), tellFloor(floor(4)), tellEntry(at(d, 1)))
	if a, b := g.Send(1), g.Send(3); !sameAnswer(a, refusal(api.ErrArg)) || !sameAnswer(b, refusal(api.ErrArg)) {
		t.Errorf("P19.8: Send to itself, to nobody: %+v, %+v", a, b)
	}
	sends(g.SendLacking(2, []api.Summary{{Serial: 4, Index: 1}}), tellFloor(floor(4)))
}

// TestZeroP19_9: a new gate's state, and what it sends.
func TestZeroP19_9(t *testing.T) {
	p := begin(t, 4096)
	wantState(t, "a new gate", p.g.State(), api.GateState{})
	p.wantNums("Send", p.send(1), 0)
	p.wantNums("SendLacking", p.sendLacking(3), 0)
}

package issuer_test

import (
	"slices"
	"testing"

	"farebox/api"
	"farebox/chain"
	"farebox/flash"
	"farebox/issuer"
	"farebox/ledger"
	"farebox/merkle"
	"farebox/ring"
	"farebox/terms"
)

// example is the chapter's issuer, row by row; what is looked at here is made by the layers below it alone.
type example struct {
	t    *testing.T
	c    api.Config
	keys api.Ring
	f    *flash.Flash
	i    *issuer.Issuer
}

// tells asks an answer's reason, its numbers, and to whom its messages go.
func (x *example) tells(what string, a api.Answer, err api.Errno, to []int, nums ...int64) api.Answer {
	x.t.Helper()
	var gone []int
	for _, m := range a.Out {
		gone = append(gone, m.To)
		if m.ID != 0 || m.From != 0 {
			x.t.Errorf("%s: a message %d from %d", what, m.ID, m.From)
		}
	}
	if a.Err != err || !slices.Equal(a.Nums, nums) || !slices.Equal(gone, to) {
		x.t.Errorf("%s = %d %v to %v, want %d %v to %v", what, a.Err, a.Nums, gone, err, nums, to)
	}
	return a
}

func (x *example) silent(what string, call func() api.Answer, to []int, nums ...int64) api.Answer {
	x.t.Helper()
	writes := x.f.Writes()
	a := x.tells(what, call(), api.OK, to, nums...)
	if x.f.Writes() != writes {
		x.t.Errorf("P23.8: %s has written", what)
	}
	return a
}

func (x *example) money(cash, unearned, earned int64) {
	x.t.Helper()
	b := x.i.State().Book
	for account, want := range []int64{cash, unearned, earned} {
		if got, err := ledger.Balance(b, account); got != want || err != api.OK {
			x.t.Errorf("P23.12: account %d = %d, %d, want %d", account, got, err, want)
		}
	}
}

func (x *example) order(from, rides int, price int64, seed byte) func() api.Answer {
	a, _ := chain.Anchor(api.Hash{seed}, 3)
	body, _ := terms.EncodeOrder(api.Order{Rides: rides, Price: price, Anchor: a})
	return func() api.Answer { return x.i.Take(from, body) }
}

func (x *example) ack(from, gate, index int) api.Answer {
	v, _ := chain.Value(api.Hash{1}, 3, index)
	secret, _ := ring.Seed(x.c, gate)
	body, _ := terms.EncodeAck(ring.SealAck(secret, api.Ack{Serial: 1, Gate: gate, Index: index, Value: v}))
	return x.i.Take(from, body)
}

// TestExamplesP23: the chapter's examples, row by row.
func TestExamplesP23(t *testing.T) {
	c := api.Config{Gates: 2, Wallets: 1, Rows: 4, Flash: 4096, Serials: 2}
	x := &example{t: t, c: c, f: flash.New(c.Flash)}
	x.keys, _ = ring.Make(c)
	var err api.Errno
	if x.i, err = issuer.Open(c, x.keys, x.f); err != api.OK {
		t.Fatalf("P23.9: Open = %d", err)
	}
	first := x.tells("an order", x.order(3, 3, 250, 1)(), api.OK, []int{3}, 1)
	x.money(750, 750, 0)
	cert, err := terms.DecodeCert(first.Out[0].Body)
	if a, _ := chain.Anchor(api.Hash{1}, 3); err != api.OK || cert != (api.Cert{Serial: 1, Rides: 3, Price: 250, Anchor: a, Sig: cert.Sig}) || !ring.CheckCert(x.keys, cert) {
		t.Errorf("P23.2: the certificate %+v, %d", cert, err)
	}
	again := x.silent("the same order", x.order(0, 3, 250, 1), []int{-1}, 1)
	if string(again.Out[0].Body) != string(first.Out[0].Body) {
		t.Error("P23.2: the same order brings another certificate")
	}
	x.tells("another price", x.order(3, 3, 251, 1)(), api.ErrAnchor, nil)
	x.tells("a second order", x.order(3, 3, 100, 2)(), api.OK, []int{3}, 2)
	x.tells("a third order", x.order(3, 3, 100, 3)(), api.ErrSerial, nil)

	x.tells("Pay(1)", x.i.Pay(1), api.ErrStatus, nil)
	x.tells("Freeze(3)", x.i.Freeze(3), api.ErrSerial, nil)
	ice := x.tells("Freeze(1)", x.i.Freeze(1), api.OK, []int{1, 2}, 1)
	same := x.silent("Freeze(1)", func() api.Answer { return x.i.Freeze(1) }, []int{1, 2}, 1)
	for _, m := range append(ice.Out, same.Out...) {
		if f, err := terms.DecodeFreeze(m.Body); err != api.OK || f.Cert != cert || !ring.CheckFreeze(x.keys, f) {
			t.Errorf("P23.4: the freeze %+v, %d", f, err)
		}
	}
	x.tells("gate 1", x.ack(1, 1, 1), api.OK, nil, 1, 1, 1)
	x.tells("Pay(1)", x.i.Pay(1), api.ErrOpen, nil)
	x.tells("gate 2", x.ack(9, 2, 0), api.OK, nil, 1, 1, 0)
	paid := x.tells("Pay(1)", x.i.Pay(1), api.OK, []int{3}, 2, 500)
	x.money(550, 300, 250)
	if r, err := terms.DecodeReceipt(paid.Out[0].Body); err != api.OK || r != (api.Receipt{Serial: 1, Rides: 2, Amount: 500, Sig: r.Sig}) || !ring.CheckReceipt(x.keys, r) {
		t.Errorf("P23.5: the receipt %+v, %d", r, err)
	}
	x.tells("Pay(1)", x.i.Pay(1), api.ErrStatus, nil)
	x.tells("Revoke(1)", x.i.Revoke(1), api.ErrStatus, nil)
	x.tells("Freeze(1)", x.i.Freeze(1), api.ErrStatus, nil)
	up := x.tells("Raise(2)", x.i.Raise(2), api.OK, []int{1, 2}, 2)
	up2 := x.silent("Raise(2)", func() api.Answer { return x.i.Raise(2) }, []int{1, 2}, 2)
	for _, m := range append(up.Out, up2.Out...) {
		if f, err := terms.DecodeFloor(m.Body); err != api.OK || f.Floor != 2 || !ring.CheckFloor(x.keys, f) {
			t.Errorf("P23.7: the floor %+v, %d", f, err)
		}
	}
	x.tells("Raise(1)", x.i.Raise(1), api.ErrFloor, nil)
	x.tells("Raise(4)", x.i.Raise(4), api.ErrArg, nil)
	gone := x.tells("Revoke(2)", x.i.Revoke(2), api.OK, []int{1, 2}, 2)
	if v, err := terms.DecodeRevocation(gone.Out[1].Body); err != api.OK || v.Cert.Serial != 2 || !ring.CheckRevocation(x.keys, v) || !ring.CheckCert(x.keys, v.Cert) {
		t.Errorf("P23.6: the revocation %+v, %d", v, err)
	}
	x.money(550, 0, 550)
	s := x.i.State()
	logged := []api.Message{first.Out[0], {}, paid.Out[0], up.Out[0], gone.Out[0]}
	second, _ := terms.EncodeCert(s.Carnets[1].Cert)
	logged[1].Body = second
	for n, m := range logged {
		if len(s.Leaves) != 5 || s.Leaves[n] != merkle.Leaf(m.Body) {
			t.Fatalf("the log has %d leaves, and leaf %d is another one", len(s.Leaves), n)
		}
	}
}

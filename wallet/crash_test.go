package wallet_test

import (
	"bytes"
	"maps"
	"slices"
	"testing"

	"farebox/api"
	"farebox/chain"
	"farebox/flash"
	"farebox/terms"
	"farebox/wallet"
)

// change is a call that lays a record down, of a wallet that filled or one of the scenes below has made.
type change struct {
	name   string
	call   func(w *wallet.Wallet) api.Answer
	record string
}

func changes() []change {
	cert, receipt := tell(certFor(6, 2, 2, 5)), tellReceipt(receiptFor(5, 1, 2))
	return []change{
		{"Buy", func(w *wallet.Wallet) api.Answer { return w.Buy(4, 4) }, orderOf(4, 4)},
		{"Ride", func(w *wallet.Wallet) api.Answer { return w.Ride(7, 1) }, rideOf(7)},
		{"Take of a certificate", func(w *wallet.Wallet) api.Answer { return w.Take([]byte(cert)) }, certOf(2, cert)},
		{"Take of a receipt", func(w *wallet.Wallet) api.Answer { return w.Take([]byte(receipt)) }, receiptOf(receipt)},
	}
}

// scene is a wallet and how many writes a call of it takes.
type scene struct {
	name   string
	writes int
	begin  func(t *testing.T, record string) *pair
}

// scenes are a wallet with room for a record; one without, whose other bank is empty; and one whose other bank holds an older epoch.
func scenes() []scene {
	roomy := func(t *testing.T, record string) *pair { return filled(t, 10+len(record)) }
	full := func(t *testing.T, record string) *pair {
		// Three rides more take 45 bytes, but no more room in a snapshot.
		p := filled(t, 10+len(record)+44)
		for range 3 {
			p.ride(7, 1)
		}
		return p
	}
	again := func(t *testing.T, record string) *pair {
		p := full(t, record)
		for p.m.epoch == 4 || p.m.room() >= 10+len(record) {
			p.ride(7, 1)
		}
		return p
	}
	return []scene{{"room", 1, roomy}, {"no room", 2, full}, {"no room, an older epoch there", 3, again}}
}

// TestCutOffP18_7: each call, cut off at each of its writes behind none of its bytes, some, and all: it answers ErrDown and nothing else; opened again, the wallet has the state of ahead of the call or of behind it.
func TestCutOffP18_7(t *testing.T) {
	for _, s := range scenes() {
		for _, x := range changes() {
			met := map[bool]int{}
			for after := 1; after <= s.writes; after++ {
				for keep := 0; keep <= 600; keep += 1 + keep/16 {
					cutOff(t, s, x, after, keep, met)
				}
			}
			if met[false] == 0 || met[true] == 0 {
				t.Errorf("P18.7: %s, %s: not both ends were met: %v", s.name, x.name, met)
			}
			p := s.begin(t, x.record)
			writes := p.f.Writes()
			if a := x.call(p.w); a.Err != api.OK || p.f.Writes() != writes+s.writes {
				t.Errorf("P18.2: %s, %s = %d, %d writes", s.name, x.name, a.Err, p.f.Writes()-writes)
			}
		}
	}
}

// cutOff is one crash; met counts whether the call was there behind it.
func cutOff(t *testing.T, s scene, x change, after, keep int, met map[bool]int) {
	t.Helper()
	p := s.begin(t, x.record)
	old := p.m.purses
	behind, _ := playOn(old, x.record)
	p.f.Arm(after, keep)
	for range 2 {
		if a := x.call(p.w); !sameAnswer(a, api.Answer{Err: api.ErrDown}) {
			t.Fatalf("P18.2: %s, %s, cut off at write %d behind %d bytes = %+v", s.name, x.name, after, keep, a)
		}
	}
	wantRefused(t, "down", config, number, p.f, api.ErrDown)
	w := reopened(t, p.f, keep)
	done := slices.Equal(w.State().Purses, behind)
	met[done]++
	if !done {
		wantState(t, "P18.7: "+s.name+", "+x.name+", cut off", w.State(), old)
	}
	if keep > p.m.size && done != (after == s.writes) {
		t.Errorf("P18.7: %s, %s: write %d of %d was kept whole, the call is there: %v", s.name, x.name, after, s.writes, done)
	}
	// The next ride is one that was not revealed, whichever of the two it is.
	revealed := int64(carnet(w.State().Purses, 7).Revealed)
	if a := w.Ride(7, 2); a.Err == api.OK && a.Nums[1] != revealed+1 || a.Err != api.OK && a.Err != api.ErrRoom {
		t.Fatalf("P18.7: Ride behind %d = %+v", revealed, a)
	}
}

// reopened is the wallet over a flash that went down, behind Opens that are cut off too.
func reopened(t *testing.T, f *flash.Flash, keep int) *wallet.Wallet {
	t.Helper()
	for i := range keep % 4 {
		f.Arm(1+(keep+i)%3, keep*(i+1)%97)
	}
	f.Restart()
	w, err := wallet.Open(config, keys(), number, f)
	for ; err == api.ErrDown; w, err = wallet.Open(config, keys(), number, f) {
		f.Restart()
	}
	f.Disarm()
	if err != api.OK {
		t.Fatalf("P18.7: Open behind a crash = %d", err)
	}
	return w
}

// rider goes through a wallet's life by chance, with what was answered so far.
type rider struct {
	t     *testing.T
	f     *flash.Flash
	w     *wallet.Wallet
	is    []api.Purse // what is there
	top   map[int]int64
	shown map[api.Hash]bool
	certs map[int]api.Cert
	met   map[api.Errno]int
}

// TestLivesP18_7: lives by chance, with crashes at any write: the indexes that Ride answers rise over all restarts, no value is shown twice, each leads to its anchor, and what is there behind a restart is what was answered, with the call that was cut off whole or not at all.
func TestLivesP18_7(t *testing.T) {
	met := map[api.Errno]int{}
	for n := range uint64(40) {
		r := chance(100 + n)
		x := &rider{t: t, f: flash.New(400 + r.IntN(900)), top: map[int]int64{}, shown: map[api.Hash]bool{}, certs: map[int]api.Cert{}, met: met}
		x.w = open(t, x.f)
		for range 150 {
			if r.IntN(5) == 0 {
				x.f.Arm(1+r.IntN(3), r.IntN(500))
			}
			kind := r.IntN(20)
			serial := 1 + r.IntN(4)
			switch {
			case kind == 0:
				rides := 1 + r.IntN(30)
				x.does(orderOf(uint32(rides), 7), func() api.Answer { return x.w.Buy(rides, 7) })
			case kind < 3 && len(x.is) > 0:
				x.takes(serial, 1+r.IntN(len(x.is)))
			case kind == 3 && serial == 1:
				receipt := tellReceipt(receiptFor(serial, 1, 7))
				x.does(receiptOf(receipt), func() api.Answer { return x.w.Take([]byte(receipt)) })
			default:
				x.rides(serial, 1+r.IntN(2))
			}
			if x.f.Down() {
				x.w = reopenedIn(t, x.f)
			}
			x.settle()
		}
	}
	for _, err := range []api.Errno{api.OK, api.ErrDown, api.ErrSpent, api.ErrRoom, api.ErrPurse, api.ErrOther} {
		if met[err] == 0 {
			t.Errorf("no call has answered %d: %v", err, met)
		}
	}
}

// reopenedIn restarts a flash till it is open; crashes that wait come to pass.
func reopenedIn(t *testing.T, f *flash.Flash) *wallet.Wallet {
	t.Helper()
	for {
		f.Restart()
		w, err := wallet.Open(config, keys(), number, f)
		if err == api.OK {
			return w
		}
		if err != api.ErrDown {
			t.Fatalf("P18.7: Open behind a crash = %d", err)
		}
	}
}

// does makes a call; answered OK it has played its record, cut off it may have, and else it has not.
func (x *rider) does(record string, call func() api.Answer) api.Answer {
	x.t.Helper()
	a := call()
	x.met[a.Err]++
	behind, plays := playOn(x.is, record)
	switch a.Err {
	case api.OK:
		if plays {
			x.is = behind
		}
	case api.ErrDown:
		x.w = reopenedIn(x.t, x.f)
		if got := x.w.State().Purses; plays && slices.Equal(got, behind) {
			x.is = behind
		}
	}
	if a.Err != api.OK && len(a.Nums)+len(a.Out) > 0 {
		x.t.Fatalf("P18.7: %+v", a)
	}
	return a
}

// settle asks the state, of the wallet and of one that is opened over a copy of the flash.
func (x *rider) settle() {
	x.t.Helper()
	wantState(x.t, "P18.7", x.w.State(), x.is)
	first, second := x.f.Files()
	was, were := bytes.Clone(first), bytes.Clone(second)
	wantState(x.t, "P18.7: a copy", open(x.t, flash.Load(2000, first, second)).State(), x.is)
	if !bytes.Equal(first, was) || !bytes.Equal(second, were) {
		x.t.Fatal("P18.1: Open has written into the bytes that a flash was loaded with")
	}
}

func (x *rider) takes(serial, k int) {
	x.t.Helper()
	cert := certFor(serial, k, x.is[k-1].Rides, 7)
	a := x.does(certOf(uint32(k), tell(cert)), func() api.Answer { return x.w.Take([]byte(tell(cert))) })
	if p := carnet(x.is, serial); a.Err == api.OK && (p == nil || p.Cert != cert) {
		x.t.Fatalf("P18.5: Take = %+v, the purse %+v", a, p)
	}
	if p := carnet(x.is, serial); p != nil {
		x.certs[serial] = p.Cert
	}
}

func (x *rider) rides(serial, gate int) {
	x.t.Helper()
	a := x.does(rideOf(uint32(serial)), func() api.Answer { return x.w.Ride(serial, gate) })
	if a.Err != api.OK {
		return
	}
	ticket, err := terms.DecodeTicket(a.Out[0].Body)
	switch {
	case err != api.OK || a.Out[0].To != gate || ticket.Cert != x.certs[serial] || int64(ticket.Index) != a.Nums[1]:
		x.t.Fatalf("P18.4: %+v, %d", ticket, err)
	case a.Nums[1] <= x.top[serial] || a.Nums[1] > int64(ticket.Cert.Rides):
		x.t.Fatalf("P18.7: index %d of %d behind %d", a.Nums[1], ticket.Cert.Rides, x.top[serial])
	case x.shown[ticket.Value]:
		x.t.Fatalf("P18.7: a value is shown twice")
	case !chain.Check(ticket.Cert.Anchor, ticket.Cert.Rides, ticket.Index, ticket.Value):
		x.t.Fatalf("P18.7: the value of index %d does not lead to the anchor", ticket.Index)
	}
	x.top[serial], x.shown[ticket.Value] = a.Nums[1], true
}

// TestAnyCallsP18: calls by chance, without crashes, beside the model.
func TestAnyCallsP18(t *testing.T) {
	met := map[api.Errno]int{}
	for n := range uint64(60) {
		r := chance(1000 + n)
		p := begin(t, 200+r.IntN(1500))
		for range 60 {
			serial, k := r.IntN(6), 1+r.IntN(4)
			rides, price := r.IntN(5), int64(r.IntN(3)-1)
			var a api.Answer
			switch r.IntN(8) {
			case 0, 1:
				a = p.buy(rides, price)
			case 2, 3:
				if q := p.m.purses; k <= len(q) && r.IntN(4) > 0 {
					rides, price = q[k-1].Rides, q[k-1].Price
				}
				a = p.takeCert(certFor(1+serial, k, max(1, rides), max(0, price)))
			case 4:
				a = p.takeReceipt(receiptFor(1+serial, r.IntN(2), 3))
			default:
				a = p.ride(serial, r.IntN(4))
			}
			met[a.Err]++
			if r.IntN(10) == 0 {
				p.w = open(t, p.f)
				p.wantAll("P18.7: opened again")
			}
		}
	}
	for _, err := range []api.Errno{api.OK, api.ErrArg, api.ErrPurse, api.ErrSpent, api.ErrOther, api.ErrRoom} {
		if met[err] < 10 {
			t.Errorf("answers: %v", slices.Sorted(maps.Keys(met)))
		}
	}
}

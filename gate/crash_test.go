package gate_test

import (
	"bytes"
	"maps"
	"slices"
	"strings"
	"testing"

	"farebox/api"
	"farebox/flash"
	"farebox/gate"
	"farebox/ring"
	"farebox/table"
	"farebox/terms"
)

// scene is a gate and how many writes a Take of it needs.
type scene struct {
	name   string
	writes int
	begin  func(t *testing.T, record string) *pair
}

// scenes are a gate with room for a record; one without, whose other bank is empty; and one whose other bank holds an older epoch.
func scenes() []scene {
	roomy := func(t *testing.T, record string) *pair { return filled(t, 10+len(record)) }
	full := func(t *testing.T, record string) *pair {
		// Three rides more take 495 bytes, but no more room in a snapshot.
		p := filled(t, 10+len(record)+494)
		for index := range 3 {
			p.ticket(long(), 3+index)
		}
		return p
	}
	again := func(t *testing.T, record string) *pair {
		p := full(t, record)
		for index := 6; p.m.epoch == 4 || p.m.room() >= 10+len(record); index++ {
			p.ticket(long(), index)
		}
		return p
	}
	return []scene{{"room", 1, roomy}, {"no room", 2, full}, {"no room, an older epoch there", 3, again}}
}

// TestCutOffP19_10: a Take of each kind, cut off at each of its writes behind none of its bytes, some, and all: it answers ErrDown and nothing else; opened again, the gate has the state of ahead of the Take or of behind it.
func TestCutOffP19_10(t *testing.T) {
	for _, s := range scenes() {
		for _, x := range changes() {
			met := map[bool]int{}
			for after := 1; after <= s.writes; after++ {
				for keep := 0; keep <= 1700; keep += 1 + keep/6 {
					cutOff(t, s, x, after, keep, met)
				}
			}
			if met[false] == 0 || met[true] == 0 {
				t.Errorf("P19.10: %s, %s: not both ends were met: %v", s.name, x.name, met)
			}
			p := s.begin(t, x.record)
			writes := p.f.Writes()
			if a := p.take(x.body); a.Err != api.OK || p.f.Writes() != writes+s.writes {
				t.Errorf("P19.7: %s, %s = %d, %d writes", s.name, x.name, a.Err, p.f.Writes()-writes)
			}
		}
	}
}

// cutOff is one crash; met counts whether the Take was there behind it.
func cutOff(t *testing.T, s scene, x change, after, keep int, met map[bool]int) {
	t.Helper()
	p := s.begin(t, x.record)
	old := p.m.state()
	next, _ := playOn(p.m.known, config.Rows, x.record)
	behind := next.state()
	p.f.Arm(after, keep)
	for range 2 {
		if a := p.g.Take([]byte(x.body)); !sameAnswer(a, refusal(api.ErrDown)) {
			t.Fatalf("P19.7: %s, %s, cut off at write %d behind %d bytes = %+v", s.name, x.name, after, keep, a)
		}
	}
	wantRefused(t, "down", config, number, p.f, api.ErrDown)
	g := reopened(t, p.f, keep)
	got := g.State()
	done := sameState(got, behind)
	met[done]++
	if !done {
		wantState(t, "P19.10: "+s.name+", "+x.name+", cut off", got, old)
	}
	if keep > p.m.size && done != (after == s.writes) {
		t.Errorf("P19.10: %s, %s: write %d of %d was kept whole, the Take is there: %v", s.name, x.name, after, s.writes, done)
	}
	if !table.CoversAll(got, old) {
		t.Errorf("P19.10: %s, %s: the table does not cover the one of before", s.name, x.name)
	}
	// What the row of the long carnet says was accepted, or laid down and not answered: neither is accepted again.
	row, _ := table.Find(got, 7)
	if a := g.Take([]byte(tellTicket(ticketOf(long(), row.Index)))); a.Err != api.ErrIndex {
		t.Fatalf("P19.10: a ticket of the stored index = %+v", a)
	}
	if a := g.Take([]byte(tellTicket(ticketOf(long(), row.Index+1)))); a.Err != api.OK && a.Err != api.ErrRoom {
		t.Fatalf("P19.10: a ticket above the stored index = %+v", a)
	}
}

// reopened is the gate over a flash that went down, behind Opens that are cut off too.
func reopened(t *testing.T, f *flash.Flash, keep int) *gate.Gate {
	t.Helper()
	for i := range keep % 4 {
		f.Arm(1+(keep+i)%3, keep*(i+1)%397)
	}
	g := restarted(t, f)
	f.Disarm()
	return g
}

// restarted restarts a flash till its gate is open; crashes that wait come to pass.
func restarted(t *testing.T, f *flash.Flash) *gate.Gate {
	t.Helper()
	for {
		f.Restart()
		g, err := gate.Open(config, keys(), number, f)
		if err == api.OK {
			return g
		}
		if err != api.ErrDown || g != nil {
			t.Fatalf("P19.10: Open behind a crash = %v, %d", g, err)
		}
	}
}

// mail is a great lot of messages of the serials 1 to 5, most of them good.
func mail() []string {
	var list []string
	for serial := 1; serial <= 5; serial++ {
		c := certFor(serial, 30, 3)
		for index := 1; index <= 30; index++ {
			list = append(list, tellTicket(ticketOf(c, index)))
		}
		for _, index := range []int{0, 4, 9} {
			e := at(c, index)
			list = append(list, tellEntry(e), tellEntry(e), tellEntry(e))
			if serial%2 == 0 && index > 0 {
				list = append(list, tellEntry(frozen(e)), tellEntry(revoked(e)))
			}
		}
		off := ticketOf(c, 20)
		off.Value[1]++
		list = append(list, tellTicket(off), tellTicket(ticketOf(certFor(serial, 30, 4), 30)), tellFreeze(freezeOf(c)), tellRevocation(revocationOf(c)))
	}
	bad := floorAt(9)
	bad.Sig[0] ^= 1
	return append(list, tellFloor(floorAt(1)), tellFloor(floorAt(2)), tellFloor(floorAt(3)), tellFloor(bad), "", told(terms.EncodeCert, cert(3)))
}

// life is a gate's, by chance, with what was answered so far.
type life struct {
	t       *testing.T
	f       *flash.Flash
	g       *gate.Gate
	m       *model       // what is there
	top     map[int]int  // the greatest index of a serial that was accepted
	retired map[int]bool // the serials that were frozen or revoked
	met     map[api.Errno]int
}

// TestLivesP19_10: lives by chance, with crashes at any write: the indexes that are accepted of a serial rise over all restarts; what is there behind a restart is what was answered, with the Take that was cut off whole or not at all; each table covers the one ahead of it; an acknowledgement tells no less than any index accepted; of what is retired nothing is accepted.
func TestLivesP19_10(t *testing.T) {
	met := map[api.Errno]int{}
	box := mail()
	for n := range uint64(30) {
		r := chance(100 + n)
		size := 700 + r.IntN(1200)
		x := &life{t: t, f: flash.New(size), m: newModel(1 << 40), top: map[int]int{}, retired: map[int]bool{}, met: met}
		x.g = open(t, x.f)
		for range 200 {
			if r.IntN(5) == 0 {
				x.f.Arm(1+r.IntN(3), r.IntN(900))
			}
			body := box[r.IntN(len(box))]
			if r.IntN(3) > 0 { // a ride that is likely to be the next one
				c := certFor(1+r.IntN(5), 30, 3)
				body = tellTicket(ticketOf(c, min(30, 1+x.m.rows[c.Serial].Index+r.IntN(2))))
			}
			x.takes(body)
		}
	}
	for _, err := range []api.Errno{api.OK, api.ErrDown, api.ErrRoom, api.ErrIndex, api.ErrFrozen, api.ErrGone, api.ErrFloor, api.ErrRows, api.ErrOther, api.ErrChain, api.ErrSign, api.ErrForm, api.ErrDomain} {
		if met[err] == 0 {
			t.Errorf("no Take has answered %d: %v", err, met)
		}
	}
}

// takes makes a Take; answered OK it has changed what the model says, cut off it may have, and else it has not.
func (x *life) takes(body string) {
	x.t.Helper()
	old := x.m.known
	a := x.g.Take([]byte(body))
	x.met[a.Err]++
	want := x.m.take([]byte(body)) // its journal has no end
	behind := x.m.known
	switch {
	case a.Err == api.OK && !sameAnswer(a, want):
		x.t.Fatalf("P19.7: Take = %+v, want %+v", a, want)
	case a.Err == api.ErrDown:
		x.g = restarted(x.t, x.f)
		if !sameState(x.g.State(), behind.state()) {
			x.m.known = old
		}
	case a.Err == api.ErrRoom && want.Err == api.OK:
		x.m.known = old
	case a.Err != want.Err:
		x.t.Fatalf("P19.7: Take = %+v, want %+v", a, want)
	}
	if a.Err != api.OK && len(a.Nums)+len(a.Out) > 0 {
		x.t.Fatalf("P19.1: %+v", a)
	}
	if x.f.Down() { // a crash that waited has come under nothing: it cannot, there was no write
		x.t.Fatal("the flash is down")
	}
	if !table.CoversAll(x.g.State(), old.state()) {
		x.t.Fatalf("P19.10: the table does not cover the one of before: %+v, %+v", x.g.State(), old.state())
	}
	if a.Err == api.OK {
		x.answered(body, a)
	}
	x.settle()
}

// answered looks at what was answered OK.
func (x *life) answered(body string, a api.Answer) {
	x.t.Helper()
	switch domain, _ := terms.Domain([]byte(body)); domain {
	case api.DomainTicket:
		serial, index := int(a.Nums[0]), int(a.Nums[1])
		if index <= x.top[serial] || x.retired[serial] || serial < x.m.floor.Floor {
			x.t.Fatalf("P19.10: index %d of %d behind %d, retired: %v", index, serial, x.top[serial], x.retired[serial])
		}
		x.top[serial] = index
	case api.DomainFreeze:
		ack, err := terms.DecodeAck(a.Out[0].Body)
		if err != api.OK || ack.Index < x.top[ack.Serial] || !signed(ack, ring.CheckAck) {
			x.t.Fatalf("P19.10: the acknowledgement %+v behind %d", ack, x.top[ack.Serial])
		}
		x.retired[ack.Serial] = true
	case api.DomainRevoke:
		x.retired[int(a.Nums[0])] = true
	case api.DomainEntry:
		e, _ := terms.DecodeEntry([]byte(body))
		x.retired[e.Cert.Serial] = x.retired[e.Cert.Serial] || e.Frozen || e.Revoked
	}
}

// settle asks the state, of the gate and of one that is opened over a copy of the flash.
func (x *life) settle() {
	x.t.Helper()
	wantState(x.t, "P19.10", x.g.State(), x.m.state())
	first, second := x.f.Files()
	was, were := bytes.Clone(first), bytes.Clone(second)
	wantState(x.t, "P19.10: a copy", open(x.t, flash.Load(4000, first, second)).State(), x.m.state())
	if !bytes.Equal(first, was) || !bytes.Equal(second, were) {
		x.t.Fatal("P19.1: Open has written into the bytes that a flash was loaded with")
	}
}

// TestAnyMailP19: messages by chance, without crashes, beside the model.
func TestAnyMailP19(t *testing.T) {
	met := map[api.Errno]int{}
	box := mail()
	for n := range uint64(30) {
		r := chance(1000 + n)
		p := begin(t, 500+r.IntN(1500))
		for range 80 {
			body := box[r.IntN(len(box))]
			if r.IntN(20) == 0 && body != "" {
				b := []byte(body)
				b[r.IntN(len(b))] ^= 1 << r.IntN(8)
				body = string(b)
			}
			met[p.take(body).Err]++
			switch r.IntN(12) {
			case 0:
				p.g = open(t, p.f)
				p.wantAll("P19.10: opened again")
			case 1:
				p.send(r.IntN(5))
			}
		}
	}
	for _, err := range []api.Errno{api.OK, api.ErrIndex, api.ErrRoom, api.ErrRows, api.ErrFloor, api.ErrForm} {
		if met[err] < 10 {
			t.Errorf("answers: %v", slices.Sorted(maps.Keys(met)))
		}
	}
}

// TestRetiredP19_10: behind a freeze, a revocation and a covering floor, by whatever message they came, no ticket of a serial is accepted any more, also behind a restart.
func TestRetiredP19_10(t *testing.T) {
	c := cert(3)
	for what, body := range map[string]string{
		"a freeze": tellFreeze(freezeOf(c)), "a revocation": tellRevocation(revocationOf(c)), "a floor": tellFloor(floorAt(4)),
		"a frozen entry": tellEntry(frozen(at(c, 0))), "a revoked entry": tellEntry(revoked(at(c, 1))),
	} {
		for first := range 5 {
			p := begin(t, 4096)
			if first > 0 {
				p.ticket(c, first)
			}
			p.wantErr(what, p.take(body), api.OK)
			for range 2 {
				for index := 1; index <= 5; index++ {
					if a := p.ticket(c, index); a.Err != api.ErrFrozen && a.Err != api.ErrGone && a.Err != api.ErrFloor {
						t.Errorf("P19.10: index %d behind %s: %d", index, what, a.Err)
					}
				}
				p.entry(at(cert(5), 1))
				p.g = open(t, p.f)
			}
			if !strings.HasSuffix(what, "floor") {
				p.entry(at(c, 4))
				p.wantErr("the last one", p.ticket(c, 5), p.ticket(c, 1).Err)
			}
		}
	}
}

// TestBurntP19_10: a ride whose record a crash let through without an answer is counted, and its index is not accepted again.
func TestBurntP19_10(t *testing.T) {
	c := cert(3)
	p := begin(t, 4096)
	p.ticket(c, 1)
	p.f.Arm(1, 4096)
	if a := p.g.Take([]byte(tellTicket(ticketOf(c, 3)))); !sameAnswer(a, refusal(api.ErrDown)) {
		t.Fatalf("P19.7: %+v", a)
	}
	g := restarted(t, p.f)
	wantState(t, "P19.10: burnt", g.State(), api.GateState{Accepted: 2, Rows: []api.Entry{at(c, 3)}})
	if a := g.Take([]byte(tellTicket(ticketOf(c, 3)))); a.Err != api.ErrIndex {
		t.Errorf("P19.10: a burnt ride: %d", a.Err)
	}
	if a := g.Take([]byte(tellTicket(ticketOf(c, 4)))); a.Err != api.OK {
		t.Errorf("P19.10: the next ride: %d", a.Err)
	}
}

package issuer_test

import (
	"bytes"
	"slices"
	"testing"

	"farebox/api"
	"farebox/flash"
	"farebox/issuer"
)

// wreckBytes writes over a list and over its spare room.
func wreckBytes(b []byte) {
	b = b[:cap(b)]
	for i := range b {
		b[i] = '!'
	}
}

// wreck writes over all of an answer.
func wreck(a api.Answer) {
	nums, out := a.Nums[:cap(a.Nums)], a.Out[:cap(a.Out)]
	for i := range nums {
		nums[i] = -7
	}
	for i := range out {
		wreckBytes(out[i].Body)
		out[i] = api.Message{ID: 7, From: 7, To: 7}
	}
}

// wreckState writes over all of a state's lists, and over their spare room.
func wreckState(s api.IssuerState) {
	carnets, leaves := s.Carnets[:cap(s.Carnets)], s.Leaves[:cap(s.Leaves)]
	for i := range carnets {
		acked := carnets[i].Refund.Acked[:cap(carnets[i].Refund.Acked)]
		for k := range acked {
			acked[k] = !acked[k]
		}
		carnets[i] = api.Carnet{Owner: 99, Status: 99}
	}
	wreckHashes(leaves)
}

func wreckHashes(list []api.Hash) {
	list = list[:cap(list)]
	for i := range list {
		list[i] = api.Hash{0xDE, 0xAD}
	}
}

func copyAnswer(a api.Answer) api.Answer {
	a.Nums, a.Out = slices.Clone(a.Nums), slices.Clone(a.Out)
	for i := range a.Out {
		a.Out[i].Body = bytes.Clone(a.Out[i].Body)
	}
	return a
}

// story is a run in which each operation changes something, changes nothing and is refused.
func story() []op {
	return []op{
		taking(4, order(1, 10)), taking(5, order(1, 10)), taking(5, order(1, 11)), taking(0, order(2, 10)), taking(5, order(3, 10)),
		freezing(1), freezing(1), freezing(9), ack(1, 1, 1, 1), ack(1, 1, 1, 1), ack(2, 1, 1, 2), ack(2, 1, 2, 1), ack(3, 1, 1, 0), freezing(1),
		paying(2), paying(1), paying(1), freezing(2), freezing(3), revoking(1), revoking(2), revoking(2), ack(1, 3, 3, 0), raising(0), raising(3), raising(3), raising(7), revoking(3),
	}
}

// TestAnswersP23: every answer may be written over, at once; the Issuer is left as it is, and goes on as if nothing had been.
func TestAnswersP23(t *testing.T) {
	for _, room := range []int{4096, 900} { // with and without compactions
		c := config
		c.Flash = room
		p := begin(t, c)
		for range 2 {
			for _, o := range story() {
				wreck(p.do(o))
				wreckState(p.i.State())
				p.wantAll("P23: an answer was written over")
				for serial := range 4 {
					proof, _ := p.i.Prove(serial)
					was := slices.Clone(proof)
					wreckHashes(proof)
					if again, _ := p.i.Prove(serial); !slices.Equal(again, was) {
						t.Fatalf("P23.11: Prove(%d) hangs on what was done to its answer", serial)
					}
				}
			}
			p.open()
		}
	}
}

// TestEarlierAnswersP23: no earlier answer, state or proof changes with what is called later.
func TestEarlierAnswersP23(t *testing.T) {
	p := begin(t, config)
	var answers, was []api.Answer
	var states, were []api.IssuerState
	var proofs, had [][]api.Hash
	for _, o := range story() {
		a := p.do(o)
		answers, was = append(answers, a), append(was, copyAnswer(a))
		s := p.i.State()
		states, were = append(states, s), append(were, copyState(s))
		proof, _ := p.i.Prove(1)
		proofs, had = append(proofs, proof), append(had, slices.Clone(proof))
		for n := range answers {
			if !sameAnswer(answers[n], was[n]) || !slices.Equal(proofs[n], had[n]) {
				t.Fatalf("P23: answer %d has changed behind %s", n, o.name)
			}
			wantState(t, "P23: an earlier state", states[n], were[n])
		}
	}
}

// TestApartP23: no two lists of one answer share memory: what is written to one message is not seen in another.
func TestApartP23(t *testing.T) {
	p := begin(t, config)
	for _, o := range story() {
		a := p.do(o)
		for n := range a.Out {
			was := copyAnswer(a)
			wreckBytes(a.Out[n].Body)
			for k := range a.Out {
				if k != n && !bytes.Equal(a.Out[k].Body, was.Out[k].Body) {
					t.Fatalf("%s: messages %d and %d share memory", o.name, n, k)
				}
			}
			a = was
		}
		s := p.i.State()
		for n := range s.Carnets {
			was := copyState(s)
			acked := s.Carnets[n].Refund.Acked
			acked = acked[:cap(acked)]
			for k := range acked {
				acked[k] = !acked[k]
			}
			for k := range s.Carnets {
				if k != n && !sameCarnet(s.Carnets[k], was.Carnets[k]) {
					t.Fatalf("carnets %d and %d of a state share memory", n, k)
				}
			}
			s = was
		}
	}
}

// TestHandedInP23_1: a message that is taken is left as it is, what lies beside it in its memory too, and is not kept.
func TestHandedInP23_1(t *testing.T) {
	p := begin(t, config)
	for _, body := range []string{order(1, 10), order(1, 10), order(1, 11), "", order(2, 10)[:20], tellFloor(floorOf(1)), "freeze", tellAck(1, api.Ack{Serial: 1, Gate: 1, Index: 1, Value: value(1, 3, 1)}), tellAck(1, api.Ack{Serial: 1, Gate: 2, Index: 1, Value: value(1, 3, 1)})} {
		if body == "freeze" {
			p.want(freezing(1), api.OK, 1)
			continue
		}
		all := []byte("<<<<<<<<" + body + ">>>>>>>>>>>>>>>>>>>>>>>>")
		was := bytes.Clone(all)
		got, want := p.i.Take(4, all[8:8+len(body)]), p.m.do(taking(4, body))
		if !bytes.Equal(all, was) {
			t.Fatalf("P23.1: Take has written to %q", body)
		}
		wreckBytes(all)
		if !sameAnswer(got, want) {
			t.Fatalf("P23.1: Take = %+v, want %+v", got, want)
		}
		p.wantAll("P23.1: a message was written over")
	}
}

// TestRingP23_9: the ring that is handed in is left as it is, what lies behind its keys too, and is not kept.
func TestRingP23_9(t *testing.T) {
	room := append(slices.Clone(keys().Gates), api.Key{1}, api.Key{2})
	was := slices.Clone(room)
	f := flash.New(4096)
	i, err := issuer.Open(config, api.Ring{Issuer: keys().Issuer, Gates: room[:3]}, f)
	if err != api.OK {
		t.Fatalf("P23.9: Open = %d", err)
	}
	i.Take(4, []byte(order(1, 10)))
	i.Freeze(1)
	if a := ack(1, 1, 1, 1).real(i); a.Err != api.OK || !slices.Equal(room, was) {
		t.Fatalf("P23.9: %+v, and the ring is %v", a, room)
	}
	for n := range room {
		room[n] = api.Key{9}
	}
	if a := ack(2, 1, 1, 1).real(i); !sameAnswer(a, api.Answer{Nums: []int64{1, 1, 1}}) {
		t.Errorf("P23.9: an acknowledgement once the ring is written over: %+v", a)
	}
}

// TestApartIssuersP23: two Issuers on flashes of one content share nothing.
func TestApartIssuersP23(t *testing.T) {
	b := bank(1, snapshot(scenery()))
	one, two := wantOpen(t, "one", flash.Load(4096, b, nil), scenery()), wantOpen(t, "two", flash.Load(4096, b, nil), scenery())
	for _, x := range changes() {
		x.o.real(one)
	}
	wantState(t, "the other one", two.State(), scenery())
	if sameState(one.State(), scenery()) {
		t.Error("nothing has changed")
	}
	if !bytes.Equal(b, bank(1, snapshot(scenery()))) {
		t.Error("P23.9: Open has written into the bytes that a flash was loaded with")
	}
}

package issuer_test

import (
	"slices"
	"testing"

	"farebox/api"
	"farebox/flash"
	"farebox/merkle"
	"farebox/ring"
)

// TestHeadP23_11: the head of a log without leaves, and those behind operations that log and that do not.
func TestHeadP23_11(t *testing.T) {
	p := begin(t, config)
	none, _ := merkle.Root(nil)
	if h := p.i.Head(); h.Size != 0 || h.Root != none || h.Sig != seal(head(10)+u32(0)+string(none[:])) || !ring.CheckHead(keys(), h) {
		t.Errorf("P23.11: the head of no leaves: %+v", h)
	}
	size := 0
	for _, x := range []struct {
		o    op
		logs bool
	}{
		{taking(4, order(1, 10)), true}, {taking(4, order(1, 10)), false}, {taking(4, order(1, 11)), false},
		{taking(4, order(2, 10)), true}, {freezing(1), false}, {freezing(1), false},
		{ack(1, 1, 1, 1), false}, {ack(2, 1, 1, 1), false}, {paying(1), false}, {ack(3, 1, 1, 1), false}, {paying(1), true}, {paying(1), false},
		{revoking(2), true}, {revoking(2), false}, {raising(3), true}, {raising(3), false}, {raising(2), false},
	} {
		p.do(x.o)
		if x.logs {
			size++
		}
		h := p.i.Head()
		root, _ := merkle.Root(p.m.s.Leaves)
		if h.Size != size || h.Root != root || h.Sig != seal(head(10)+u32(size)+string(root[:])) {
			t.Errorf("P23.11: the head behind %s: %+v, want %d leaves", x.o.name, h, size)
		}
	}
}

// TestNothingWrittenP23_11: Head, Prove and State write nothing and change nothing.
func TestNothingWrittenP23_11(t *testing.T) {
	p := stand(t, fourStatuses())
	writes := p.f.Writes()
	for range 2 {
		p.i.Head()
		p.i.State()
		for _, n := range numbers {
			p.i.Prove(n)
		}
	}
	p.wantAll("P23.11")
	if p.f.Writes() != writes {
		t.Error("P23.11: one that only tells has written")
	}
}

// TestProveP23_11: the leaf of a certificate is proved at the first place at which it stands; where it stands nowhere, there are no hashes.
func TestProveP23_11(t *testing.T) {
	s := fourStatuses()
	own := slices.Clone(s.Leaves)
	other := []api.Hash{{1}, {2}, {3}}
	// Serial 1 stands twice, 2 stands at the end alone, 3 nowhere, and 4 twice in a row.
	s.Leaves = []api.Hash{other[0], own[0], other[1], own[3], own[3], own[0], other[2], own[1]}
	p := stand(t, s)
	h := p.i.Head()
	for serial, at := range map[int]int{1: 1, 2: 7, 4: 3} {
		proof, err := p.i.Prove(serial)
		want, _ := merkle.Inclusion(s.Leaves, at)
		if err != api.OK || !slices.Equal(proof, want) || !merkle.CheckInclusion(own[serial-1], at, 8, proof, h.Root) {
			t.Errorf("P23.11: Prove(%d) = %d hashes, %d", serial, len(proof), err)
		}
	}
	if proof, err := p.i.Prove(3); err != api.OK || len(proof) > 0 {
		t.Errorf("P23.11: Prove of a leaf that stands nowhere = %d hashes, %d", len(proof), err)
	}
	// A log of that leaf alone needs no hashes; one without leaves has none.
	s.Leaves = own[2:3]
	p = stand(t, s)
	if proof, err := p.i.Prove(3); err != api.OK || len(proof) > 0 || !merkle.CheckInclusion(own[2], 0, 1, proof, p.i.Head().Root) {
		t.Errorf("P23.11: Prove in a log of one leaf = %d hashes, %d", len(proof), err)
	}
	s.Leaves = nil
	p = stand(t, s)
	if proof, err := p.i.Prove(3); err != api.OK || len(proof) > 0 {
		t.Errorf("P23.11: Prove in a log of none = %d hashes, %d", len(proof), err)
	}
}

// TestDeadP23_11: a dead Issuer answers ErrDown, whatever it is handed, also once its flash is up again; its Head, Prove and State are as they were.
func TestDeadP23_11(t *testing.T) {
	for name, x := range changes() {
		for _, keep := range []int{0, 5, 10000} {
			p := roomy(t, 4, 10+len(x.record))
			state, h := p.i.State(), p.i.Head()
			proof, _ := p.i.Prove(2)
			p.f.Arm(1, keep)
			if a := x.o.real(p.i); !sameAnswer(a, refusal(api.ErrDown)) {
				t.Fatalf("P23.8: %s into a crash = %+v", name, a)
			}
			for up := range 2 {
				for _, o := range []op{x.o, taking(4, ""), taking(4, order(1, 10)), taking(-1, order(1, 11)), ack(1, 3, 3, 1), freezing(0), freezing(2), paying(1), revoking(9), raising(0), raising(7)} {
					if a := o.real(p.i); !sameAnswer(a, refusal(api.ErrDown)) {
						t.Errorf("P23.8: a dead Issuer's %s = %+v", o.name, a)
					}
				}
				if a := p.i.Take(4, nil); !sameAnswer(a, refusal(api.ErrDown)) {
					t.Errorf("P23.8: a dead Issuer's Take = %+v", a)
				}
				wantState(t, "P23.11: a dead Issuer's", p.i.State(), state)
				again, err := p.i.Prove(2)
				if p.i.Head() != h || !slices.Equal(again, proof) || err != api.OK {
					t.Errorf("P23.11: a dead Issuer's head %+v, and proof %d", p.i.Head(), err)
				}
				if _, err := p.i.Prove(9); err != api.ErrSerial {
					t.Errorf("P23.11: a dead Issuer's Prove(9) = %d", err)
				}
				if up == 0 {
					p.f.Restart()
				}
			}
		}
	}
}

// TestFlashDownP23_8: a flash that is down already when a record is to be laid down, with room and without: the Issuer is dead from then on. What needs no record is answered.
func TestFlashDownP23_8(t *testing.T) {
	for name, x := range changes() {
		for _, room := range []int{500, 0} {
			p := roomy(t, 4, room)
			p.f.Arm(1, 0)
			p.f.Append(0, nil)
			if a := p.i.Freeze(2); a.Err != api.OK || len(a.Out) != 3 {
				t.Errorf("P23.8: what changes nothing = %+v", a)
			}
			if a := p.i.Freeze(9); a.Err != api.ErrSerial {
				t.Errorf("P23.8: what is refused = %+v", a)
			}
			if a := x.o.real(p.i); !sameAnswer(a, refusal(api.ErrDown)) {
				t.Errorf("P23.8: %s with the flash down = %+v", name, a)
			}
			p.f.Restart()
			if a := p.i.Freeze(2); !sameAnswer(a, refusal(api.ErrDown)) {
				t.Errorf("P23.8: behind %s with the flash down = %+v", name, a)
			}
			wantState(t, "P23.8", p.i.State(), scenery())
			wantOpen(t, "behind that", flash.Load(p.m.size, bank(4, snapshot(scenery())), nil), scenery())
		}
	}
}

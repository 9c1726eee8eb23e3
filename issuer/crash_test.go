package issuer_test

import (
	"testing"

	"farebox/api"
	"farebox/flash"
	"farebox/issuer"
)

// scene is an issuer and how many writes an operation of it needs.
type scene struct {
	name   string
	writes int
	begin  func(t *testing.T, record string) *pair
}

// scenes are an issuer with room for a record; one without, whose other bank is empty; and one whose other bank holds an older epoch.
func scenes() []scene {
	fills := func(n int) func(t *testing.T, record string) *pair {
		return func(t *testing.T, record string) *pair {
			// Each filler but the first finds no room either, and begins a new epoch.
			p := roomy(t, 4, 10+len(record)+fillerSize-1)
			for index := range n {
				p.do(filler(index + 1))
			}
			return p
		}
	}
	room := func(t *testing.T, record string) *pair { return roomy(t, 4, 10+len(record)) }
	return []scene{{"room", 1, room}, {"no room", 2, fills(1)}, {"no room, an older epoch there", 3, fills(2)}}
}

// TestCutOffP23_14: an operation of each kind, cut off at each of its writes: of its record behind each byte, of a compaction behind some (and of one kind behind each): it answers ErrDown and nothing else; opened again, the issuer has the state of ahead of the operation or of behind it.
func TestCutOffP23_14(t *testing.T) {
	for _, s := range scenes() {
		for name, x := range changes() {
			t.Run(s.name+", "+name, func(t *testing.T) {
				t.Parallel()
				met := map[bool]int{}
				size := s.begin(t, x.record).m.size
				if s.writes == 1 {
					size = 10 + len(x.record)
				}
				step := 40
				if s.writes == 1 || name == "Freeze" {
					step = 1
				}
				for after := 1; after <= s.writes; after++ {
					for keep := 0; keep < size; keep += step {
						cutOff(t, s, x.o, x.record, after, keep, met)
					}
					cutOff(t, s, x.o, x.record, after, size, met)
				}
				if met[false] == 0 || met[true] == 0 {
					t.Errorf("P23.14: not both ends were met: %v", met)
				}
				p := s.begin(t, x.record)
				writes := p.f.Writes()
				if a := p.do(x.o); a.Err != api.OK || p.f.Writes() != writes+s.writes {
					t.Errorf("P23.8: %d, by %d writes", a.Err, p.f.Writes()-writes)
				}
			})
		}
	}
}

// cutOff is one crash; met counts whether the operation was there behind it.
func cutOff(t *testing.T, s scene, o op, record string, after, keep int, met map[bool]int) {
	t.Helper()
	p := s.begin(t, record)
	old, behind := p.m.s, o.model(config, p.m.s).s
	p.f.Arm(after, keep)
	for range 2 {
		if a := o.real(p.i); !sameAnswer(a, refusal(api.ErrDown)) {
			t.Fatalf("P23.8: cut off at write %d behind %d bytes = %+v", after, keep, a)
		}
	}
	wantState(t, "P23.8: cut off", p.i.State(), old)
	wantRefused(t, "down", config, p.f, api.ErrDown)
	i := reopened(t, p.f, keep)
	done := sameState(i.State(), behind)
	met[done]++
	if !done {
		wantState(t, "P23.14: cut off", i.State(), old)
	}
	if keep >= p.m.size && done != (after == s.writes) {
		t.Errorf("P23.14: write %d of %d was kept whole, the operation is there: %v", after, s.writes, done)
	}
	// Asked once more, the operation is done, or has been; whatever was told, it is told of nothing else.
	want := o.model(config, i.State())
	a := o.real(i)
	if !sameAnswer(a, want.a) {
		t.Fatalf("P23.14: once more = %+v, want %+v", a, want.a)
	}
	if a.Err == api.OK {
		wantState(t, "P23.14: once more", i.State(), behind)
	}
}

// reopened is the issuer over a flash that went down, behind Opens that are cut off too.
func reopened(t *testing.T, f *flash.Flash, keep int) *issuer.Issuer {
	t.Helper()
	for i := range keep % 4 {
		f.Arm(1+(keep+i)%3, keep*(i+1)%397)
	}
	i := restarted(t, f)
	f.Disarm()
	return i
}

// restarted restarts a flash till its issuer is open; crashes that wait come to pass.
func restarted(t *testing.T, f *flash.Flash) *issuer.Issuer {
	t.Helper()
	for {
		f.Restart()
		i, err := issuer.Open(config, keys(), f)
		if err == api.OK {
			return i
		}
		if err != api.ErrDown || i != nil {
			t.Fatalf("P23.14: Open behind a crash = %v, %d", i, err)
		}
	}
}

// TestFirstP23_14: a blank flash that goes down at each byte of the first snapshot; and at each byte of the first record behind it.
func TestFirstP23_14(t *testing.T) {
	t.Parallel()
	o := taking(4, order(1, 250))
	behind := o.model(config, api.IssuerState{}).s
	for keep := 0; keep <= 120; keep++ {
		f := flash.New(512)
		f.Arm(1, keep)
		if i, err := issuer.Open(config, keys(), f); i != nil || err != api.ErrDown {
			t.Fatalf("P23.9: Open into a crash = %v, %d", i, err)
		}
		i := restarted(t, f)
		wantState(t, "P23.9: a Format that was cut off", i.State(), api.IssuerState{})
		f.Arm(1, keep)
		if a := o.real(i); !sameAnswer(a, refusal(api.ErrDown)) {
			t.Fatalf("P23.8: %+v", a)
		}
		i = restarted(t, f)
		want := api.IssuerState{}
		if keep >= 60 { // the order's frame has 60 bytes
			want = behind
		}
		wantState(t, "P23.14: an order that was cut off", i.State(), want)
		if a := o.real(i); !sameAnswer(a, o.model(config, want).a) {
			t.Fatalf("P23.2: %+v", a)
		}
		wantState(t, "P23.14: the same order", i.State(), behind)
	}
}

// life is an issuer's, by chance, with what was answered so far.
type life struct {
	t   *testing.T
	f   *flash.Flash
	i   *issuer.Issuer
	s   api.IssuerState // what is there
	w   *watch
	met map[api.Errno]int
}

// does makes an operation; answered OK it has changed what the model says, cut off it may have, and else it has not.
func (x *life) does(o op) {
	x.t.Helper()
	want := o.model(config, x.s)
	a := o.real(x.i)
	x.met[a.Err]++
	switch {
	case a.Err == api.ErrDown:
		if len(a.Nums)+len(a.Out) > 0 {
			x.t.Fatalf("P23.8: %+v", a)
		}
		x.i = restarted(x.t, x.f)
		if sameState(x.i.State(), want.s) {
			x.s = want.s
		}
	case a.Err == api.ErrRoom && want.a.Err == api.OK && want.record != "":
		if len(a.Nums)+len(a.Out) > 0 {
			x.t.Fatalf("P23.8: %+v", a)
		}
	case !sameAnswer(a, want.a):
		x.t.Fatalf("%s = %+v, want %+v", o.name, a, want.a)
	default:
		x.s = want.s
	}
	if x.f.Down() {
		x.t.Fatal("the flash is down")
	}
	wantState(x.t, "P23.14", x.i.State(), x.s)
}

// TestLivesP23_14: lives by chance, with crashes at any write, those of Open too: what is there behind a restart is what was answered, with the operation that was cut off whole or not at all; and the books, the statuses and the log are as they must be all the way.
func TestLivesP23_14(t *testing.T) {
	t.Parallel()
	met := map[api.Errno]int{}
	for n := range uint64(25) {
		r := chance(1000 + n)
		x := &life{t: t, f: flash.New(600 + r.IntN(1500)), w: newWatch(t), met: met}
		x.i = restarted(t, x.f)
		for range 90 {
			if r.IntN(5) == 0 {
				x.f.Arm(1+r.IntN(3), r.IntN(900))
			}
			x.does(anyOp(r, x.s))
			x.w.look(x.i, r.IntN(8) == 0)
		}
		x.w.look(x.i, true)
		first, second := x.f.Files()
		wantOpen(t, "P23.14: a copy", flash.Load(4096, first, second), x.s)
	}
	for _, err := range []api.Errno{api.OK, api.ErrDown, api.ErrRoom, api.ErrSerial, api.ErrFloor, api.ErrStatus, api.ErrAnchor, api.ErrOpen, api.ErrSign, api.ErrChain, api.ErrArg} {
		if met[err] == 0 {
			t.Errorf("no operation has answered %d: %v", err, met)
		}
	}
}

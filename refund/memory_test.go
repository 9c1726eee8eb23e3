package refund_test

import (
	"slices"
	"testing"

	"farebox/api"
	"farebox/refund"
)

// wreck turns all of a list and of its spare room.
func wreck(list []bool) {
	all := list[:cap(list)]
	for i := range all {
		all[i] = !all[i]
	}
}

// framed is a refund whose Acked has other bools ahead of it and behind it in its memory, and all of that memory.
func framed(x api.Refund) (api.Refund, []bool) {
	whole := slices.Concat(marks("x.x"), x.Acked, marks(".x.x."))
	x.Acked = whole[3 : 3+len(x.Acked)]
	return x, whole
}

// answers are what all calls answer of two refunds.
type answers struct {
	refunds []api.Refund
	missing []int
	done    bool
	rides   int
	errs    []api.Errno
}

func ask(x, y api.Refund, gate, index int) answers {
	var a answers
	keep := func(z api.Refund, err api.Errno) {
		a.refunds, a.errs = append(a.refunds, z), append(a.errs, err)
	}
	keep(refund.Ack(x, gate, index))
	keep(refund.Ack(x, gate, index)) // once more, in memory of its own
	keep(refund.Ack(y, len(y.Acked), 0))
	keep(refund.Ack(x, len(x.Acked)+1, 0)) // refused
	keep(refund.Join(x, y))
	keep(refund.Join(y, x))
	keep(refund.Join(x, x))
	a.missing, a.done = refund.Missing(x), refund.Done(x)
	var err api.Errno
	a.rides, err = refund.Rides(x)
	a.errs = append(a.errs, err)
	return a
}

func (a answers) sameAs(b answers) bool {
	return slices.EqualFunc(a.refunds, b.refunds, same) && slices.Equal(a.missing, b.missing) && a.done == b.done && a.rides == b.rides && slices.Equal(a.errs, b.errs)
}

// copied is the same in memory of its own.
func (a answers) copied() answers {
	a.refunds, a.missing, a.errs = slices.Clone(a.refunds), slices.Clone(a.missing), slices.Clone(a.errs)
	for i := range a.refunds {
		a.refunds[i].Acked = slices.Clone(a.refunds[i].Acked)
	}
	return a
}

// wantOwn asks that each of the answers is in memory of its own, by writing over one after the other.
func (a answers) wantOwn(t *testing.T) {
	t.Helper()
	kept := a.copied()
	for i := range a.refunds {
		wreck(a.refunds[i].Acked)
		for j := i + 1; j < len(a.refunds); j++ {
			if !same(a.refunds[j], kept.refunds[j]) {
				t.Fatalf("the answers %d and %d share memory", i, j)
			}
		}
	}
	all := a.missing[:cap(a.missing)]
	for i := range all {
		all[i] = -9
	}
}

// TestHandedInP21: what is handed in is left as it is, what lies beside it in its memory too, whatever is done to the answers; nothing of it is kept, and no answer hangs on the spare room.
func TestHandedInP21(t *testing.T) {
	r := chance(3)
	for i := range 600 {
		x := drawUnmade(r, i%20)
		y := drawUnmade(r, i%20)
		if i%5 > 0 {
			y.Serial, y.Rides = x.Serial, x.Rides
		}
		gate, index := r.IntN(i%20+2), r.IntN(x.Rides+2)
		if i%7 == 0 {
			y.Acked = x.Acked
		}
		bare := ask(x, y, gate, index).copied()
		x, xAll := framed(x)
		y, yAll := framed(y)
		if i%7 == 0 {
			y.Acked, yAll = x.Acked, nil // both share an Acked
		}
		xWas, yWas := slices.Clone(xAll), slices.Clone(yAll)
		left := func() bool { return slices.Equal(xAll, xWas) && slices.Equal(yAll, yWas) }
		first, second := ask(x, y, gate, index), ask(x, y, gate, index)
		if !first.sameAs(bare) || !second.sameAs(bare) {
			t.Fatal("the same calls do not answer the same")
		}
		if !left() {
			t.Fatal("what was handed in has changed")
		}
		second.wantOwn(t)
		if !left() {
			t.Fatal("an answer shares memory with what was handed in")
		}
		if !first.sameAs(bare) || !ask(x, y, gate, index).sameAs(bare) {
			t.Fatal("an answer shares memory with an earlier one, or something is kept")
		}
		wreck(xAll)
		wreck(yAll)
		if !first.sameAs(bare) {
			t.Fatal("an answer changes with what was handed in")
		}
	}
}

// TestBegunApartP21: two refunds that are begun alike share nothing.
func TestBegunApartP21(t *testing.T) {
	for gates := 1; gates <= api.MaxGates; gates++ {
		one, two := begin(t, 7, 10, gates), begin(t, 7, 10, gates)
		wreck(one.Acked)
		if slices.Contains(two.Acked, true) || slices.Contains(begin(t, 7, 10, gates).Acked, true) {
			t.Fatalf("P21.1: refunds of %d gates share memory", gates)
		}
	}
}

// TestStepsApartP21: each refund of a collection that goes on stays what it was, also if a later one, or one of another way on, is written over.
func TestStepsApartP21(t *testing.T) {
	a := begin(t, 7, 10, 3)
	b := ack(t, a, 2, 4)
	c, d := ack(t, b, 1, 6), ack(t, b, 3, 0)
	e := join(t, c, d)
	if !same(e, with(7, 10, "xxx", 6)) {
		t.Fatalf("P21.5: %s", brief(e))
	}
	wreck(e.Acked)
	wreck(d.Acked)
	for _, p := range []struct{ got, want api.Refund }{{a, with(7, 10, "...", 0)}, {b, with(7, 10, ".x.", 4)}, {c, with(7, 10, "xx.", 6)}} {
		if !same(p.got, p.want) {
			t.Errorf("%s has become %s", brief(p.want), brief(p.got))
		}
	}
}

// TestPiecesP21: refunds whose Acked are pieces of one memory.
func TestPiecesP21(t *testing.T) {
	whole := marks("x..x.x..")
	was := slices.Clone(whole)
	x := api.Refund{Serial: 7, Rides: 10, Acked: whole[:4], Top: 2}
	y := api.Refund{Serial: 7, Rides: 10, Acked: whole[2:6], Top: 3}
	wantJoin(t, x, y, with(7, 10, "xx.x", 3), api.OK)
	wantAck(t, x, 3, 5, with(7, 10, "x.xx", 5), api.OK)
	wantAck(t, x, 5, 5, none, api.ErrAcked) // there is no fifth gate, though there is room behind the fourth
	wantMissing(t, y, 1, 3)
	wantRides(t, api.Refund{Serial: 7, Rides: 10, Acked: whole[3:4], Top: 3}, 7, api.OK)
	if !slices.Equal(whole, was) {
		t.Error("what was handed in has changed")
	}
}

// TestFreeP21: of refunds of any numbers every call ends, and none panics, changes what it is handed, or shares its memory.
func TestFreeP21(t *testing.T) {
	r := chance(4)
	number := func() int { return edges[r.IntN(len(edges))] }
	for i := range 3000 {
		x, xAll := framed(drawFree(r))
		y, yAll := framed(drawFree(r))
		if i%2 == 0 {
			y.Serial, y.Rides = x.Serial, x.Rides
		}
		if i%3 == 0 {
			y.Acked, yAll = x.Acked, nil
		}
		xWas, yWas := slices.Clone(xAll), slices.Clone(yAll)
		gate := number()
		if i%2 == 0 {
			gate = r.IntN(len(x.Acked) + 2)
		}
		ask(x, y, gate, number()).wantOwn(t)
		if !slices.Equal(xAll, xWas) || !slices.Equal(yAll, yWas) {
			t.Fatalf("what was handed in has changed: %s, %s", brief(x), brief(y))
		}
		refund.Begin(number(), number(), number())
	}
}

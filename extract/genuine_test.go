package extract_test

import (
	"bytes"
	"fmt"
	"slices"
	"testing"

	"farebox/api"
	"farebox/terms"
)

// changed are breaks that differ from b in one field each.
func changed(b api.Break) map[string]api.Break {
	list := map[string]api.Break{}
	put := func(what string, change func(x *api.Break)) {
		x := b
		x.Say = bytes.Clone(b.Say)
		change(&x)
		if !sameBreak(x, b) {
			list[what] = x
		}
	}
	for _, kind := range []int{-1, 0, 1, 2, 3, 4, 258, -2} {
		put(fmt.Sprint("kind ", kind), func(x *api.Break) { x.Kind = kind })
	}
	for _, steps := range []int{-4096, -1, 0, 1, 2, 3, 4, 5, 4095, api.MaxRides, api.MaxRides + 1, 1 << 32, -1 << 63, 1<<63 - 1} {
		put(fmt.Sprint("steps ", steps), func(x *api.Break) { x.Steps = steps })
	}
	for _, at := range []int{0, 17, 31} {
		put(fmt.Sprint("key ", at), func(x *api.Break) { x.Key[at] ^= 1 })
		put(fmt.Sprint("value ", at), func(x *api.Break) { x.Value[at] ^= 0x80 })
		put(fmt.Sprint("sig ", at), func(x *api.Break) { x.Sig[2*at] ^= 0x10 })
	}
	put("no key", func(x *api.Break) { x.Key = api.Key{} })
	put("no value", func(x *api.Break) { x.Value = api.Hash{} })
	put("no sig", func(x *api.Break) { x.Sig = api.Sig{} })
	put("no say", func(x *api.Break) { x.Say = nil })
	put("a longer say", func(x *api.Break) { x.Say = append(x.Say, 0) })
	put("another key", func(x *api.Break) { x.Key = keys().Gates[0] })
	put("another value", func(x *api.Break) { x.Value = first.value(4) })
	if len(b.Say) > 0 {
		put("a shorter say", func(x *api.Break) { x.Say = x.Say[:len(x.Say)-1] })
		put("another say", func(x *api.Break) { x.Say[len(x.Say)-1] ^= 1 })
	}
	return list
}

// TestFieldsP27_6: each break of a trace with all kinds is genuine, and none that differs in a field but a preimage of other steps that lead to a known value, too.
func TestFieldsP27_6(t *testing.T) {
	v := first.value
	ack, frozen := first.ack(2, 0), flagged(seed(0), second.cert(), 0, second.value(0), true, true)
	told := []api.Event{out(4, first.order()), out(4, first.ticket(1)), out(5, orderOf(v(3), 2)), out(5, second.order())}
	trace := append(told, inject(first.ticket(6)), inject(ack), inject(first.entry(3)), inject(frozen), inject(second.ticket(5)), inject(floorOf(seed(0), 6)))
	breaks := []api.Break{
		forgery(t, 2, ack, 0), forgery(t, 0, frozen, 0), forgery(t, 0, frozen, 1), forgery(t, 0, frozen, 2), forgery(t, 0, trace[9].Body, 0), forgery(t, 0, trace[4].Body, 0),
		preimage(v(6), 3), preimage(v(6), 5), preimage(v(6), 6), preimage(second.value(5), 5),
		stray(v(3), 3),
	}
	m := newModel(keys(), trace).kinds()
	if all := slices.Concat(m[0], m[1], m[2]); len(all) != len(breaks)+2 { // each certificate is shown in two bodies
		t.Errorf("%d breaks of the model", len(all))
	}
	for _, b := range breaks {
		wantGenuine(t, "of many", keys(), trace, b, true)
		empty := b
		empty.Say = append([]byte{}, b.Say...)
		wantGenuine(t, "with a list of its own", keys(), trace, empty, true)
		for what, x := range changed(b) {
			want := slices.ContainsFunc(breaks, func(y api.Break) bool { return sameBreak(x, y) })
			wantGenuine(t, what, keys(), trace, x, want)
		}
		wantGenuine(t, "of another trace", keys(), told, b, false)
	}
	wantGenuine(t, "the zero break", keys(), trace, api.Break{}, false)
}

// TestBodiesP27_6: what is no break at one body may be one at another: told between, with another owner of the same say.
func TestBodiesP27_6(t *testing.T) {
	floor := floorOf(seed(0), 6)
	f, p, s := forgery(t, 0, floor, 0), preimage(first.value(2), 2), stray(first.value(2), 2)
	order, other := out(4, first.order()), out(4, orderOf(first.value(2), 2))
	two := inject(first.ticket(2))
	for _, x := range []struct {
		what    string
		trace   []api.Event
		f, p, s bool
	}{
		{"shown, told, shown", []api.Event{inject(floor), out(0, floor), inject(floor), order, two, other}, true, true, false},
		{"told, shown", []api.Event{out(0, floor), inject(floor), order, other, two}, false, false, true},
		{"told by another", []api.Event{out(1, floor), inject(floor), two, order}, true, false, false},
		{"a preimage, then a stray", []api.Event{order, two, other, two}, false, true, true},
		{"a preimage, then a ride", []api.Event{order, two, out(4, first.ticket(3)), two}, false, true, false},
		{"a stray, then a ride", []api.Event{order, other, two, out(4, first.ticket(3)), two}, false, false, true},
		{"a ride", []api.Event{order, other, out(4, first.ticket(3)), two}, false, false, false},
		{"a preimage, from an entry, a ticket of another carnet and an acknowledgement", []api.Event{order, inject(bareAck(first.value(2)))}, false, true, false},
		{"told alone", []api.Event{out(0, floor), order, other, out(4, first.ticket(2))}, false, false, false},
	} {
		wantGenuine(t, x.what, keys(), x.trace, f, x.f)
		wantGenuine(t, x.what, keys(), x.trace, p, x.p)
		wantGenuine(t, x.what, keys(), x.trace, s, x.s)
	}
}

// TestNotVerifiedP27_6: a pair that is shown and does not verify, or has no owner, is no forgery, whatever key is told beside it.
func TestNotVerifiedP27_6(t *testing.T) {
	theirs := floorOf(stranger, 6)
	says, sigs, _ := terms.Said(theirs)
	trace := []api.Event{inject(theirs), inject(ackOf(seed(1), 5, 1, 0, first.value(0)))}
	for _, key := range append(keys().Gates, keys().Issuer, api.Key{}) {
		wantGenuine(t, "another's signature", keys(), trace, api.Break{Kind: api.BreakForgery, Key: key, Say: says[0], Sig: sigs[0]}, false)
		b := forgery(t, 1, trace[1].Body, 0)
		b.Key = key
		wantGenuine(t, "no owner", keys(), trace, b, false)
	}
	// The key of the ring is asked, not the one that has signed.
	mine := floorOf(seed(0), 6)
	b := forgery(t, 0, mine, 0)
	wantGenuine(t, "another ring", api.Ring{Issuer: keys().Gates[0], Gates: keys().Gates}, []api.Event{inject(mine)}, b, false)
	wantGenuine(t, "its ring", keys(), []api.Event{inject(mine)}, b, true)
}

package extract_test

import (
	"bytes"
	"slices"
	"testing"

	"farebox/api"
	"farebox/extract"
)

// handed is what is handed in, each list in the midst of a greater piece of memory.
type handed struct {
	r      api.Ring
	trace  []api.Event
	b      api.Break
	bytes  [][]byte // the memory of the bodies and the say
	events []api.Event
	gates  []api.Key
}

// midst is a list in the midst of a greater one; all is that one.
func midst[T any](list []T, other T) (piece, all []T) {
	all = slices.Concat([]T{other, other}, list, []T{other, other, other})
	return all[2 : 2+len(list)], all
}

func hand(r api.Ring, trace []api.Event, b api.Break) handed {
	var x handed
	bodies := slices.Clone(trace)
	for i, e := range trace {
		piece, all := midst(e.Body, 0xAB)
		bodies[i].Body = piece
		x.bytes = append(x.bytes, all)
	}
	piece, all := midst(b.Say, 0xAB)
	x.b, x.bytes = b, append(x.bytes, all)
	x.b.Say = piece
	x.trace, x.events = midst(bodies, api.Event{Kind: api.EventOut, Node: 77, Body: []byte("behind")})
	x.r.Issuer = r.Issuer
	x.r.Gates, x.gates = midst(r.Gates, api.Key{0xAB})
	return x
}

func sameEvent(a, b api.Event) bool {
	return a.Kind == b.Kind && a.Node == b.Node && a.Serial == b.Serial && a.Index == b.Index && a.Amount == b.Amount && bytes.Equal(a.Body, b.Body)
}

// isLike tells whether all memory is as that of another handing of the same.
func (x handed) isLike(y handed) bool {
	return slices.EqualFunc(x.bytes, y.bytes, bytes.Equal) && slices.EqualFunc(x.events, y.events, sameEvent) && slices.Equal(x.gates, y.gates) && x.r.Issuer == y.r.Issuer && sameBreak(x.b, y.b)
}

// wreck writes over a list and its spare room, and lays something behind it.
func wreck[T any](list []T, other T) {
	_ = append(list, other, other)
	list = list[:cap(list)]
	for i := range list {
		list[i] = other
	}
}

// wreckAll writes over all that was handed in.
func (x handed) wreckAll() {
	for _, b := range x.bytes {
		wreck(b, 0xEE)
	}
	wreck(x.events, api.Event{Kind: api.EventInject, Body: []byte("wrecked")})
	wreck(x.gates, api.Key{0xEE})
}

// eventful is a trace with several breaks of each kind.
func eventful() []api.Event {
	var trace []api.Event
	for _, x := range []line{first, second} {
		trace = append(trace, out(4, x.order()), inject(x.ticket(5)), inject(x.ack(2, 3)), out(4, x.ticket(1)), out(5, orderOf(x.value(3), 2)), inject(x.entry(3)), inject(flagged(seed(0), x.cert(), 4, x.value(4), true, true)))
	}
	return append(trace, inject(nil), out(0, nil), api.Event{Kind: api.EventDown, Node: 2}, inject([]byte("no message")), out(4, single.order()))
}

// TestHandedInP27: what is handed in is left as it is, what lies behind it too; what is answered does not hang on it any more.
func TestHandedInP27(t *testing.T) {
	trace := eventful()
	m := newModel(keys(), trace).kinds()
	for promise, find := range calls() {
		want, found := find(keys(), trace)
		x := hand(keys(), trace, api.Break{})
		got, also := find(x.r, x.trace)
		if !found || !also || !sameBreak(got, want) {
			t.Fatalf("%s: %v, %v: %s, %s", promise, found, also, tell(got), tell(want))
		}
		if !x.isLike(hand(keys(), trace, api.Break{})) {
			t.Errorf("%s: what was handed in has changed", promise)
		}
		x.wreckAll()
		if !sameBreak(got, want) {
			t.Errorf("%s: the answer shares memory with what was handed in", promise)
		}
	}
	for _, list := range m {
		for _, b := range append(list, api.Break{}, api.Break{Kind: 1, Say: []byte("nothing")}) {
			x := hand(keys(), trace, b)
			extract.Genuine(x.r, x.trace, x.b)
			if !x.isLike(hand(keys(), trace, b)) {
				t.Errorf("P27.6: what was handed in has changed behind %s", tell(b))
			}
		}
	}
	x := hand(keys(), trace, api.Break{})
	list := extract.Published(x.trace)
	if !x.isLike(hand(keys(), trace, api.Break{})) {
		t.Error("P27.1: what was handed in has changed")
	}
	x.wreckAll()
	if !slices.Equal(list, newModel(keys(), trace).published()) || len(list) != 7 {
		t.Errorf("P27.1: %d values are published behind a change of the trace", len(list))
	}
}

// TestAnswersP27: an answer may be written over, its spare room too; a second one is as it was, and the next one comes as if nothing had been.
func TestAnswersP27(t *testing.T) {
	trace, copied := eventful(), eventful()
	for promise, find := range calls() {
		one, _ := find(keys(), trace)
		two, _ := find(keys(), trace)
		say := bytes.Clone(one.Say)
		wreck(one.Say, 0xEE)
		if !bytes.Equal(two.Say, say) {
			t.Errorf("%s: two answers share memory", promise)
		}
		if three, _ := find(keys(), trace); !sameBreak(three, two) {
			t.Errorf("%s: %s, was %s", promise, tell(three), tell(two))
		}
	}
	one, two := extract.Published(trace), extract.Published(trace)
	wreck(one, api.Hash{0xEE})
	if want := newModel(keys(), trace).published(); !slices.Equal(two, want) || !slices.Equal(extract.Published(trace), want) {
		t.Error("P27.1: two answers share memory")
	}
	if !slices.EqualFunc(trace, copied, sameEvent) {
		t.Error("the trace has changed with the answers")
	}
}

// TestArgumentsAloneP27: nothing is kept from call to call: the same trace is answered the same, whatever was asked between.
func TestArgumentsAloneP27(t *testing.T) {
	traces := [][]api.Event{eventful(), eventful()[5:], crossed(2), nil, {inject(floorOf(seed(0), 2))}, {out(0, floorOf(seed(0), 2)), inject(floorOf(seed(0), 2))}}
	type answer struct {
		b     api.Break
		found bool
	}
	was := map[string][]answer{}
	for range 3 {
		for promise, find := range calls() {
			var list []answer
			for _, trace := range traces {
				b, found := find(keys(), trace)
				list = append(list, answer{b, found})
			}
			if was[promise] == nil {
				was[promise] = list
			}
			same := func(a, b answer) bool { return a.found == b.found && sameBreak(a.b, b.b) }
			if !slices.EqualFunc(list, was[promise], same) {
				t.Errorf("%s: answered otherwise when asked again", promise)
			}
		}
		slices.Reverse(traces)
		for _, list := range was {
			slices.Reverse(list)
		}
	}
}

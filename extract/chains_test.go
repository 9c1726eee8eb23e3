package extract_test

import (
	"fmt"
	"slices"
	"testing"

	"farebox/api"
	"farebox/chain"
	"farebox/extract"
	"farebox/terms"
)

// TestPublishedP27_1: anchors of orders and values of tickets that are told, by whomever, in the order of first telling, each once.
func TestPublishedP27_1(t *testing.T) {
	a, b := first, second
	cert := body(terms.EncodeCert, a.cert())
	for _, x := range []struct {
		what  string
		trace []api.Event
		want  []api.Hash
	}{
		{"no trace", nil, nil},
		{"an empty trace", []api.Event{}, nil},
		{"an order", []api.Event{out(4, a.order())}, []api.Hash{a.value(0)}},
		{"a ticket", []api.Event{out(4, a.ticket(3))}, []api.Hash{a.value(3)}},
		{"an order twice", []api.Event{out(4, a.order()), out(5, a.order()), out(4, b.order())}, []api.Hash{a.value(0), b.value(0)}},
		{"tickets, out of their order and twice", []api.Event{out(4, a.ticket(3)), out(4, a.ticket(1)), out(4, a.ticket(3)), out(4, a.ticket(2)), out(4, a.ticket(1))}, []api.Hash{a.value(3), a.value(1), a.value(2)}},
		{"an order behind its tickets", []api.Event{out(4, b.ticket(2)), out(4, b.order())}, []api.Hash{b.value(2), b.value(0)}},
		{"a value as an anchor, then as a ticket's", []api.Event{out(4, orderOf(a.value(2), 4)), out(4, a.ticket(2)), out(5, a.ticket(1))}, []api.Hash{a.value(2), a.value(1)}},
		{"a value as a ticket's, then as an anchor", []api.Event{out(4, a.ticket(2)), out(5, a.ticket(1)), out(4, orderOf(a.value(2), 4))}, []api.Hash{a.value(2), a.value(1)}},
		{"a value with two certificates", []api.Event{out(4, ticketOf(b.cert(), 5, a.value(2))), out(4, a.ticket(2))}, []api.Hash{a.value(2)}},
		{"by any node", []api.Event{out(-7, a.order()), out(0, b.order()), out(99, a.ticket(1)), out(2, b.ticket(5))}, []api.Hash{a.value(0), b.value(0), a.value(1), b.value(5)}},
		{"other kinds of bodies", []api.Event{out(0, cert), out(1, a.entry(3)), out(1, a.ack(1, 2)), out(0, freezeOf(seed(0), a.cert())), out(0, revocationOf(seed(0), a.cert())), out(0, floorOf(seed(0), 2)), out(0, receiptOf(seed(0), 1)), out(0, headOf(seed(0), 2))}, nil},
		{"shown ones", []api.Event{inject(a.order()), inject(a.ticket(2)), out(4, b.order()), inject(b.ticket(1))}, []api.Hash{b.value(0)}},
		{"shown, then told", []api.Event{inject(a.ticket(2)), out(4, b.order()), out(4, a.ticket(2))}, []api.Hash{b.value(0), a.value(2)}},
		{"zeros", []api.Event{out(4, orderOf(api.Hash{}, 1)), out(4, a.order())}, []api.Hash{{}, a.value(0)}},
	} {
		if got := extract.Published(x.trace); !slices.Equal(got, x.want) {
			t.Errorf("P27.1: %s: %x, want %x", x.what, got, x.want)
		}
	}
	var others, refused []api.Event
	for kind := -1; kind < 12; kind++ {
		if kind != api.EventOut {
			others = append(others, api.Event{Kind: kind, Node: 4, Body: a.order()}, api.Event{Kind: kind, Node: 4, Body: a.ticket(1)})
		}
	}
	for _, b := range junk() {
		refused = append(refused, out(4, b))
	}
	for _, trace := range [][]api.Event{others, refused} {
		if got := extract.Published(trace); len(got) > 0 {
			t.Errorf("P27.1: published is %x of what tells nothing", got)
		}
	}
}

// shows are the bodies whose value is v: a ticket, an entry, an acknowledgement.
func shows(v api.Hash) [][]byte {
	cert := bare(api.Hash{8}, 3)
	return [][]byte{ticketOf(cert, 2, v), entryOf(cert, 2, v), entryOf(cert, 0, v), bareAck(v)}
}

// TestStepsP27_3: a value that leads to a known one in 1, in some and in MaxRides steps, not in one more; the least number of steps is told.
func TestStepsP27_3(t *testing.T) {
	above := []api.Hash{{0x77}} // three steps lead from the first of these to the chain's last value, two from the second
	for range 3 {
		above = append(above, chain.Step(above[len(above)-1]))
	}
	top := above[3]
	long := line{top, api.MaxRides}
	for _, x := range []struct {
		v     api.Hash
		known []api.Hash // as anchors
		steps int        // 0: nothing
	}{
		{top, []api.Hash{long.value(0)}, 4096},
		{above[2], []api.Hash{long.value(0)}, 0},
		{above[2], []api.Hash{long.value(1)}, 4096},
		{above[1], []api.Hash{long.value(1), long.value(0)}, 0},
		{above[2], []api.Hash{long.value(1), top}, 1},
		{above[0], []api.Hash{top, above[1]}, 1},
		{above[0], []api.Hash{top, above[2]}, 2},
		{above[0], []api.Hash{top, long.value(4095)}, 3},
		{top, []api.Hash{long.value(4095)}, 1},
		{top, []api.Hash{long.value(4090), long.value(4094), long.value(3)}, 2},
		{top, []api.Hash{top, long.value(4095)}, 0},
		{long.value(2), []api.Hash{top, long.value(3)}, 0},
		{long.value(0), []api.Hash{long.value(1), top}, 0},
		{top, nil, 0},
	} {
		var told []api.Event
		for _, v := range x.known {
			told = append(told, out(4, orderOf(v, 1)))
		}
		for _, b := range shows(x.v) {
			trace := append(slices.Clone(told), inject(b))
			what := fmt.Sprintf("P27.3: %d steps", x.steps)
			if x.steps == 0 {
				wantNone(t, what, extract.Preimage, keys(), trace)
				continue
			}
			wantBreak(t, what, extract.Preimage, keys(), trace, preimage(x.v, x.steps))
		}
	}
}

// TestManyStepsP27_3: of the steps from 1 to MaxRides all that lead to a known value are genuine, and no others.
func TestManyStepsP27_3(t *testing.T) {
	long := line{api.Hash{4}, api.MaxRides}
	v := chain.Step(api.Hash{5})
	chained := line{v, api.MaxRides}
	trace := []api.Event{out(4, orderOf(chained.value(0), 1)), out(4, orderOf(chained.value(1), 1)), out(4, orderOf(chained.value(4000), 1)), out(4, long.order()), inject(shows(api.Hash{5})[3]), inject(shows(v)[0])}
	want := map[int]bool{96: true, 4095: true, 4096: true}
	wantBreak(t, "P27.3: the first body", extract.Preimage, keys(), trace, preimage(api.Hash{5}, 97))
	for _, steps := range []int{-1, 0, 1, 95, 96, 97, 4094, 4095, 4096, 4097, 1 << 40} {
		wantGenuine(t, fmt.Sprint(steps, " steps"), keys(), trace, preimage(v, steps), want[steps])
	}
	for steps, is := range map[int]bool{97: true, 4096: true, 4097: false, 4095: false} {
		wantGenuine(t, fmt.Sprint(steps, " steps from further off"), keys(), trace, preimage(api.Hash{5}, steps), is)
	}
}

// TestKnownP27_3: known are the anchors of the orders that were told, and the values of the tickets, with as many steps on as their index says; nothing else, and nothing that comes later.
func TestKnownP27_3(t *testing.T) {
	// The values of a chain, by how far they are from its end; the anchor of an order far below it makes of each that is not known a preimage.
	chained := line{api.Hash{6}, 40}
	v := chained.value
	base := out(4, orderOf(v(0), 1))
	for _, index := range []int{1, 2, 5, 12} {
		told := out(5, ticketOf(bare(api.Hash{1}, 12), index, v(20)))
		for i := range 41 {
			want := preimage(v(i), i)
			if i > 20 {
				want.Steps = i - 20
			}
			what := fmt.Sprintf("P27.3: a ticket of index %d, shown is the value %d from it", index, i-20)
			trace := []api.Event{base, told, inject(shows(v(i))[i%4])}
			if i == 0 || i <= 20 && i >= 20-index {
				wantNone(t, what, extract.Preimage, keys(), trace)
			} else {
				wantBreak(t, what, extract.Preimage, keys(), trace, want)
			}
			// Told behind it, it makes nothing known.
			if i > 0 {
				wantBreak(t, what+", told behind", extract.Preimage, keys(), []api.Event{base, trace[2], told}, preimage(v(i), i))
			}
		}
	}
	for _, b := range [][]byte{entryOf(bare(v(0), 30), 20, v(20)), bareAck(v(20)), body(terms.EncodeCert, bare(v(20), 3)), freezeOf(seed(0), bare(v(20), 2))} {
		wantBreak(t, "P27.3: told, and not published", extract.Preimage, keys(), []api.Event{base, out(1, b), inject(bareAck(v(20)))}, preimage(v(20), 20))
		wantNone(t, "P27.3: told, and not published", extract.Preimage, keys(), []api.Event{out(1, b), inject(bareAck(v(21))), inject(bareAck(v(20)))})
	}
	for _, b := range [][]byte{orderOf(v(20), 1), ticketOf(bare(v(20), 3), 1, v(20))} {
		wantBreak(t, "P27.3: shown is not told", extract.Preimage, keys(), []api.Event{base, inject(orderOf(v(20), 1)), inject(b), inject(bareAck(v(20)))}, preimage(v(20), 20))
		wantNone(t, "P27.3: shown is not told", extract.Preimage, keys(), []api.Event{inject(b), inject(bareAck(v(21)))})
		wantNone(t, "P27.3: told by any node", extract.Preimage, keys(), []api.Event{out(-3, b), base, inject(bareAck(v(20)))})
	}
}

// TestLaterTicketsP27_3: a value leads to what is known by then, not to what is told later; a later ticket of a lower index, or of the same value and a higher one, adds what it leads to.
func TestLaterTicketsP27_3(t *testing.T) {
	v := line{api.Hash{6}, 40}.value
	low := func(index int, of int) api.Event { return out(5, ticketOf(bare(api.Hash{byte(of)}, 12), index, v(of))) }
	trace := []api.Event{inject(bareAck(v(30))), low(2, 20), inject(bareAck(v(30))), low(1, 25), inject(bareAck(v(30))), low(3, 30), inject(bareAck(v(30))), inject(bareAck(v(24)))}
	wantBreak(t, "P27.3: by and by", extract.Preimage, keys(), trace, preimage(v(30), 10))
	for steps, want := range map[int]bool{5: true, 6: true, 7: false, 9: false, 10: true, 11: true, 12: true, 13: false, 1: false, 2: false, 3: false} {
		wantGenuine(t, fmt.Sprint("by and by, ", steps), keys(), trace, preimage(v(30), steps), want)
	}
	wantBreak(t, "P27.3: behind the first", extract.Preimage, keys(), trace[3:], preimage(v(30), 5))
	wantNone(t, "P27.3: known by then", extract.Preimage, keys(), trace[5:])
	// The ticket of value 20 and index 2 knows 20 to 18; once it is told with index 4, 17 and 16 too.
	again := out(5, ticketOf(bare(api.Hash{20}, 12), 4, v(20)))
	base := out(4, orderOf(v(0), 1))
	wantNone(t, "P27.3: a ticket with a higher index", extract.Preimage, keys(), []api.Event{base, low(2, 20), again, low(2, 20), inject(bareAck(v(17))), inject(bareAck(v(16)))})
	wantBreak(t, "P27.3: a ticket with a higher index, told behind", extract.Preimage, keys(), []api.Event{base, low(2, 20), inject(bareAck(v(18))), inject(bareAck(v(17))), again}, preimage(v(17), 17))
	wantBreak(t, "P27.3: below a higher index", extract.Preimage, keys(), []api.Event{base, again, low(2, 20), inject(bareAck(v(16))), inject(bareAck(v(15)))}, preimage(v(15), 15))
}

// TestOrderP27_3: the first one by the order of the shown bodies, whatever its steps and its form.
func TestOrderP27_3(t *testing.T) {
	v := line{api.Hash{6}, 40}.value
	told := []api.Event{out(4, orderOf(v(0), 1)), out(4, second.order())}
	bodies := [][]byte{bareAck(v(9)), ticketOf(bare(v(0), 20), 4, v(4)), entryOf(bare(v(0), 20), 7, v(7)), second.ticket(1)}
	wants := []api.Break{preimage(v(9), 9), preimage(v(4), 4), preimage(v(7), 7), preimage(second.value(1), 1)}
	for i := range bodies {
		trace := append(slices.Clone(told), inject([]byte("junk")), inject(single.ticket(1)), inject(orderOf(v(3), 1)))
		for k := range bodies {
			trace = append(trace, inject(bodies[(i+k)%4]))
		}
		wantBreak(t, "P27.3: the order", extract.Preimage, keys(), trace, wants[i])
		for _, b := range wants {
			wantGenuine(t, "not the first", keys(), trace, b, true)
		}
	}
}

// TestRepeatedP27_3: a value that has led to nothing is asked anew when it is shown again, and so is one that leads through it.
func TestRepeatedP27_3(t *testing.T) {
	v := line{api.Hash{6}, 40}.value
	for _, late := range []int{1, 6, 10, 29} {
		trace := []api.Event{inject(bareAck(v(10))), inject(bareAck(v(10))), inject(bareAck(v(30))), out(4, orderOf(v(late), 1)), inject(bareAck(v(10))), inject(bareAck(v(30)))}
		want := preimage(v(10), 10-late)
		if late >= 10 {
			want = preimage(v(30), 30-late)
		}
		wantBreak(t, fmt.Sprintf("P27.3: %d is told later", late), extract.Preimage, keys(), trace, want)
		wantNone(t, "P27.3: ahead of it", extract.Preimage, keys(), trace[:4])
	}
	// A barren value below which another chain's are known.
	other := line{api.Hash{7}, 30}
	wantBreak(t, "P27.3: behind barren ones", extract.Preimage, keys(), []api.Event{inject(bareAck(v(10))), inject(bareAck(v(9))), inject(bareAck(v(12))), inject(bareAck(v(11))), out(4, other.order()), inject(bareAck(v(13))), inject(bareAck(other.value(3))), inject(bareAck(v(40)))}, preimage(other.value(3), 3))
}

// crossed tells two orders of one chain: the anchor of the second is the value of a ride of the first.
func crossed(index int) []api.Event {
	return []api.Event{out(4, first.order()), out(5, orderOf(first.value(index), 1))}
}

// TestIndexesP27_4: of a ticket and an entry, by each index from 0 to the rides of the certificate.
func TestIndexesP27_4(t *testing.T) {
	for index := 0; index <= first.rides; index++ {
		bodies := [][]byte{first.entry(index)}
		if index > 0 {
			bodies = append(bodies, first.ticket(index))
		}
		for _, b := range bodies {
			trace := append(crossed(index), inject(b))
			if index == 0 {
				wantNone(t, "P27.4: index 0", extract.Stray, keys(), trace)
				wantGenuine(t, "index 0", keys(), trace, stray(first.value(0), 0), false)
				continue
			}
			wantBreak(t, fmt.Sprintf("P27.4: index %d", index), extract.Stray, keys(), trace, stray(first.value(index), index))
			wantNone(t, "P27.4: the value is known", extract.Preimage, keys(), trace)
			for _, other := range []int{index - 1, index + 1} {
				if other < 1 || other > first.rides {
					continue
				}
				wrong := append(crossed(index), inject(ticketOf(first.cert(), other, first.value(index))), inject(entryOf(first.cert(), other, first.value(index))))
				wantNone(t, "P27.4: a value of another index", extract.Stray, keys(), wrong)
			}
		}
	}
	// With fewer rides in the certificate than the index an entry or ticket is no message; with as many it is one.
	few := certOf(1, 3, first.value(0))
	wantBreak(t, "P27.4: index 3 of 3", extract.Stray, keys(), append(crossed(3), inject(ticketOf(few, 3, first.value(3)))), stray(first.value(3), 3))
	for _, b := range [][]byte{ticketOf(few, 3, first.value(4)), entryOf(few, 3, first.value(4))} {
		b[119] = 4
		wantNone(t, "P27.4: index 4 of 3", extract.Stray, keys(), append(crossed(4), inject(b)))
		wantGenuine(t, "index 4 of 3", keys(), append(crossed(4), inject(b)), stray(first.value(4), 4), false)
	}
	// The certificate's other fields and its signature are not asked.
	wantBreak(t, "P27.4: any certificate", extract.Stray, keys(), append(crossed(2), inject(ticketOf(bare(first.value(0), api.MaxRides), 2, first.value(2)))), stray(first.value(2), 2))
	wantNone(t, "P27.4: an acknowledgement is none", extract.Stray, keys(), append(crossed(2), inject(first.ack(1, 2))))
}

// TestLongestP27_4: the last index of the longest chain.
func TestLongestP27_4(t *testing.T) {
	long := line{api.Hash{4}, api.MaxRides}
	told := []api.Event{out(4, long.order()), out(4, orderOf(long.value(4096), 1))}
	wantBreak(t, "P27.4: index MaxRides", extract.Stray, keys(), append(told, inject(long.ticket(4096))), stray(long.value(4096), 4096))
	// All values of the chain are known, and told as its rides.
	trace := []api.Event{out(4, long.order()), out(4, long.ticket(4096)), inject(long.ticket(4096)), inject(long.ticket(4095)), inject(long.ticket(2048)), inject(long.entry(1)), inject(long.entry(0))}
	wantNone(t, "P27.4: told as the last ride", extract.Total, api.Ring{}, trace)
}

// TestConditionsP27_4: each that must hold, and does not.
func TestConditionsP27_4(t *testing.T) {
	v := first.value
	order, other := crossed(2)[0], crossed(2)[1]
	shown := inject(first.ticket(2))
	for _, x := range []struct {
		what  string
		trace []api.Event
		found bool
	}{
		{"all hold", []api.Event{order, other, shown}, true},
		{"in the other order", []api.Event{other, order, shown}, true},
		{"twice", []api.Event{order, other, shown, shown}, true},
		{"the anchor of no order", []api.Event{other, shown}, false},
		{"the anchor of an order that is told behind", []api.Event{other, shown, order}, false},
		{"the anchor of an order that is shown", []api.Event{inject(first.order()), other, shown}, false},
		{"the anchor is told by a ticket alone", []api.Event{out(4, ticketOf(bare(v(0), 3), 1, v(0))), other, shown}, false},
		{"a certificate is no order", []api.Event{out(0, body(terms.EncodeCert, first.cert())), other, shown}, false},
		{"the value is not known", []api.Event{order, shown}, false},
		{"the value is known later", []api.Event{order, shown, other}, false},
		{"shown once more behind that", []api.Event{order, shown, other, shown}, true},
		{"the value is shown as an anchor", []api.Event{order, inject(orderOf(v(2), 1)), shown}, false},
		{"the value is told as another carnet's ride", []api.Event{order, out(4, ticketOf(bare(api.Hash{1}, 9), 2, v(2))), shown}, true},
		{"the value is known by another carnet's ride", []api.Event{order, out(4, ticketOf(bare(api.Hash{1}, 9), 3, v(5))), shown}, true},
		{"it is not", []api.Event{order, out(4, ticketOf(bare(api.Hash{1}, 9), 2, v(5))), shown}, false},
	} {
		if x.found {
			wantBreak(t, "P27.4: "+x.what, extract.Stray, keys(), x.trace, stray(v(2), 2))
		} else {
			wantNone(t, "P27.4: "+x.what, extract.Stray, keys(), x.trace)
			wantGenuine(t, x.what, keys(), x.trace, stray(v(2), 2), false)
		}
	}
}

// TestToldAsRidesP27_4: a ticket with this anchor and at least this index that leads to the value, told ahead, is what it was told for; one with a lower index, another anchor, another value, told behind or shown is not.
func TestToldAsRidesP27_4(t *testing.T) {
	v := first.value
	as := func(anchor api.Hash, index int, v api.Hash) []byte { return ticketOf(bare(anchor, 4000), index, v) }
	for _, x := range []struct {
		what  string
		body  []byte
		found bool
	}{
		{"this ride", first.ticket(3), false},
		{"this ride, by another certificate of the anchor", as(v(0), 3, v(3)), false},
		{"the next ride", first.ticket(4), false},
		{"the last ride", first.ticket(6), false},
		{"the ride ahead of it", first.ticket(2), true},
		{"the first ride", first.ticket(1), true},
		{"the value as a lower index", as(v(0), 2, v(3)), true},
		{"the value as a higher index", as(v(0), 4, v(3)), true},
		{"the next value as this index", as(v(0), 3, v(4)), true},
		{"the next value as an index too far", as(v(0), 5, v(4)), true},
		{"a value that leads to it in as many steps, above the rides of its chain", as(v(0), 6, v(6)), false},
		{"a value that does not lead to it", as(v(0), 5, second.value(5)), true},
		{"this ride of another anchor", as(v(1), 3, v(3)), true},
		{"the next ride of another anchor", as(api.Hash{}, 4, v(4)), true},
	} {
		told := append(crossed(3), out(4, x.body))
		for _, shown := range [][]byte{first.ticket(3), first.entry(3)} {
			trace := append(slices.Clone(told), inject(shown))
			if x.found {
				wantBreak(t, "P27.4: told is "+x.what, extract.Stray, keys(), trace, stray(v(3), 3))
			} else {
				wantNone(t, "P27.4: told is "+x.what, extract.Stray, keys(), trace)
				wantGenuine(t, "told is "+x.what, keys(), trace, stray(v(3), 3), false)
			}
			behind := append(crossed(3), inject(shown), out(4, x.body), inject(shown))
			wantBreak(t, "P27.4: told behind is "+x.what, extract.Stray, keys(), behind, stray(v(3), 3))
			also := append(crossed(3), inject(x.body), inject(shown))
			want := stray(v(3), 3)
			wantGenuine(t, "shown is "+x.what, keys(), also, want, true)
			// Told twice, and by whomever, and beside one that does not help.
			more := append(slices.Clone(told), out(4, x.body), out(-4, as(v(0), 4, v(3))), inject(shown))
			if _, found := extract.Stray(keys(), more); found != x.found {
				t.Errorf("P27.4: told twice is %s: %v", x.what, found)
			}
		}
	}
}

// TestOrderP27_4: the first one by the order of the shown bodies.
func TestOrderP27_4(t *testing.T) {
	v := first.value
	told := []api.Event{out(4, first.order()), out(4, orderOf(v(2), 1)), out(4, orderOf(v(5), 1)), out(4, second.order()), out(4, orderOf(second.value(1), 1))}
	bodies := [][]byte{first.ticket(5), first.entry(2), second.ticket(1)}
	wants := []api.Break{stray(v(5), 5), stray(v(2), 2), stray(second.value(1), 1)}
	for i := range bodies {
		trace := append(slices.Clone(told), inject(first.ticket(1)), inject([]byte("junk")), inject(first.ack(1, 2)), inject(first.entry(0)))
		for k := range bodies {
			trace = append(trace, inject(bodies[(i+k)%3]))
		}
		wantBreak(t, "P27.4: the order", extract.Stray, keys(), trace, wants[i])
		for _, b := range wants {
			wantGenuine(t, "not the first", keys(), trace, b, true)
		}
	}
	// A value that is a stray of two carnets: v(3) of the first one, and v(3) as the first ride of an order with the anchor v(2).
	both := []api.Event{out(4, first.order()), out(4, orderOf(v(2), 3)), out(4, orderOf(v(3), 1)), inject(ticketOf(bare(v(2), 3), 1, v(3))), inject(first.ticket(3))}
	wantBreak(t, "P27.4: of two carnets", extract.Stray, keys(), both, stray(v(3), 1))
	wantGenuine(t, "of the other carnet", keys(), both, stray(v(3), 3), true)
	wantGenuine(t, "of no carnet", keys(), both, stray(v(3), 2), false)
}

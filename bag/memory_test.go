package bag_test

import (
	"bytes"
	"slices"
	"testing"

	"farebox/api"
	"farebox/bag"
)

// wreck writes over all of a Body and its spare room, and lays something behind it.
func wreck(body []byte) {
	all := body[:cap(body)]
	for i := range all {
		all[i] ^= 0xFF
	}
	body = append(body, "more"...)
	body = append(body[:0], "less"...)
	_ = append(body, all...)
}

// wreckList does so with each message, and writes over the list and its spare room.
func wreckList(list []api.Message) {
	for _, m := range list {
		wreck(m.Body)
	}
	list = list[:cap(list)]
	for i := range list {
		list[i] = message(99, 99, 99, "stray")
	}
}

// copied is the same list in memory of its own.
func copied(list []api.Message) []api.Message {
	list = slices.Clone(list)
	for i := range list {
		list[i].Body = bytes.Clone(list[i].Body)
	}
	return list
}

// bodies are of all the lengths by which memory might be handed on.
var bodies = []string{"", "a", "seven..", "eight...", text(33), text(longest)}

// filled is a bag with each of the bodies twice, the second time as a double.
func filled(t *testing.T) *bag.Bag {
	t.Helper()
	b := bag.New()
	for i, body := range bodies {
		put(t, b, message(0, i, -i, body))
	}
	for id := range bodies {
		if n, err := b.Double(id + 1); err != api.OK || n != len(bodies)+id+1 {
			t.Fatalf("P24.5: Double(%d) = %d, %d", id+1, n, err)
		}
	}
	return b
}

// TestHandedInP24_2: a Body that is handed in is left as it is, what lies beside it in its memory too, whatever is called and whatever is done to the answers; nothing of it is kept.
func TestHandedInP24_2(t *testing.T) {
	for _, body := range append(bodies, text(longest+1)) {
		whole := slices.Concat([]byte("ahead"), []byte(body), bytes.Repeat([]byte("behind"), 400))
		was := bytes.Clone(whole)
		m := api.Message{ID: 5, From: 1, To: 2, Body: whole[5 : 5+len(body)]}
		left := func() bool { return bytes.Equal(whole, was) && m.ID == 5 && len(m.Body) == len(body) }
		b := bag.New()
		for range 3 {
			b.Put(m)
			b.Double(1)
		}
		got, _ := b.Get(1)
		wreck(got.Body)
		took, _ := b.Take(2)
		wreck(took.Body)
		wreckList(b.List())
		b.Put(m)
		if !left() {
			t.Errorf("P24.2: a Body of %d bytes has changed", len(body))
		}
		kept := copied(b.List())
		wreck(whole)
		wantList(t, "P24.2: the bag, behind a change of what was handed in", b.List(), kept)
		for _, m := range kept {
			if string(m.Body) != body {
				t.Errorf("P24.2: the message %d of %d bytes has become %.40q", m.ID, len(body), m.Body)
			}
		}
	}
}

// TestPutBackP24_2: what a bag has answered may be put into it again, and is left as it is.
func TestPutBackP24_2(t *testing.T) {
	b := filled(t)
	for _, m := range b.List() {
		was := bytes.Clone(m.Body)
		id := put(t, b, m)
		again, _ := b.Take(id)
		wreck(again.Body)
		if !bytes.Equal(m.Body, was) {
			t.Errorf("P24.2: the message %d has changed", m.ID)
		}
	}
}

// TestAnswersApartP24: whatever is done to an answer, the bag and the earlier answers stay as they are; and an answer stays as it is whatever is called behind it.
func TestAnswersApartP24(t *testing.T) {
	b := filled(t)
	want := copied(b.List())
	first := b.List()
	for i, m := range want {
		one, _ := b.Get(m.ID)
		two, _ := b.Get(m.ID)
		wreck(two.Body)
		wantMessage(t, "P24.3: an earlier Get", one, m)
		wantList(t, "P24.3: the bag", b.List(), want[i:])
		took, err := b.Take(m.ID)
		if err != api.OK {
			t.Fatalf("P24.4: Take: %d", err)
		}
		wantMessage(t, "P24.4: Take", took, m)
		wreck(one.Body)
		wantMessage(t, "P24.4: a Take behind which a Get is written over", took, m)
		wreck(took.Body)
		wantList(t, "P24.4: the bag behind a Take that is written over", b.List(), want[i+1:])
		wantList(t, "P24.6: an earlier List", first, want)
	}
	for i := range want {
		put(t, b, message(0, i, i, text(longest)))
	}
	wantList(t, "P24.6: a List behind which all was taken", first, want)
}

// TestListApartP24_6: each entry of a List has memory of its own, and so has the List.
func TestListApartP24_6(t *testing.T) {
	b := filled(t)
	want := copied(b.List())
	list, other := b.List(), b.List()
	for i := range list {
		wreck(list[i].Body)
		wantList(t, "P24.6: the entries behind it", list[i+1:], want[i+1:])
	}
	wreckList(list)
	wantList(t, "P24.6: another List", other, want)
	wantList(t, "P24.6: the bag", b.List(), want)
	_ = append(other[:2], message(9, 9, 9, "laid behind"))
	wantList(t, "P24.6: the bag", b.List(), want)
}

// TestDoubleApartP24_5: a message and its double share nothing.
func TestDoubleApartP24_5(t *testing.T) {
	for _, body := range bodies {
		for _, order := range [][2]int{{1, 2}, {2, 1}} {
			b := bag.New()
			put(t, b, message(0, 3, 4, body))
			b.Double(1)
			took, _ := b.Take(order[0])
			wreck(took.Body)
			m, ok := b.Get(order[1])
			if !ok || !same(m, message(order[1], 3, 4, body)) {
				t.Errorf("P24.5: of %d bytes the one is taken and written over, the other is %s, %v", len(body), brief(m), ok)
			}
		}
	}
}

// TestBagsApartP24: bags share neither messages nor numbers nor memory.
func TestBagsApartP24(t *testing.T) {
	one, two := pairOf(t), pairOf(t)
	r := chance(9)
	for range 300 {
		one.step(r)
		two.look()
		if r.IntN(4) == 0 {
			two.step(r)
			one.look()
		}
	}
	b, c := bag.New(), bag.New()
	body := []byte("of both")
	put(t, b, api.Message{Body: body})
	put(t, c, api.Message{Body: body})
	took, _ := b.Take(1)
	wreck(took.Body)
	if m, ok := c.Get(1); !ok || string(m.Body) != "of both" {
		t.Errorf("P24.2: the other bag's message has become %s, %v", brief(m), ok)
	}
}

// TestUnmadeP24: on a Bag that New did not make no call panics.
func TestUnmadeP24(t *testing.T) {
	for _, b := range []*bag.Bag{nil, {}} {
		b.Put(message(0, 1, 2, "a"))
		b.Get(1)
		b.Double(1)
		b.Take(1)
		b.List()
		b.Len()
		b.Room()
	}
}

package bag_test

import (
	"math"
	"slices"
	"testing"

	"farebox/api"
	"farebox/bag"
)

// put lays in what is not refused.
func put(t *testing.T, b *bag.Bag, m api.Message) int {
	t.Helper()
	id, err := b.Put(m)
	if err != api.OK {
		t.Fatalf("P24.2: Put: %d", err)
	}
	return id
}

// TestExamplesP24: those of the chapter, one behind the other.
func TestExamplesP24(t *testing.T) {
	b := bag.New()
	wantPut := func(m api.Message, want int, wantErr api.Errno) {
		t.Helper()
		id, err := b.Put(m)
		wantNumber(t, "P24.2: Put", id, err, want, wantErr)
	}
	wantDouble := func(id, want int, wantErr api.Errno) {
		t.Helper()
		got, err := b.Double(id)
		wantNumber(t, "P24.5: Double", got, err, want, wantErr)
	}
	wantTake := func(id int, want api.Message, wantErr api.Errno) {
		t.Helper()
		m, err := b.Take(id)
		wantMessage(t, "P24.4: Take", m, want)
		if err != wantErr {
			t.Errorf("P24.4: Take(%d): %d, want %d", id, err, wantErr)
		}
	}
	wantPut(message(0, 3, 0, "a"), 1, api.OK)
	wantPut(message(0, 0, 3, "b"), 2, api.OK)
	if m, ok := b.Get(1); !ok || !same(m, message(1, 3, 0, "a")) {
		t.Errorf("P24.3: Get(1) = %s, %v", brief(m), ok)
	}
	for _, id := range []int{3, 0} {
		if m, ok := b.Get(id); ok || !same(m, api.Message{}) {
			t.Errorf("P24.3: Get(%d) = %s, %v", id, brief(m), ok)
		}
	}
	wantDouble(1, 3, api.OK)
	wantTake(1, message(1, 3, 0, "a"), api.OK)
	wantTake(1, api.Message{}, api.ErrNoMsg)
	wantPut(message(0, 1, 1, ""), 4, api.OK)
	want := []api.Message{message(2, 0, 3, "b"), message(3, 3, 0, "a"), message(4, 1, 1, "")}
	wantList(t, "P24.6: List", b.List(), want)
	if b.Len() != 3 || b.Room() != 4093 {
		t.Errorf("P24.6: Len %d, Room %d", b.Len(), b.Room())
	}
	wantPut(message(0, 0, 1, text(1025)), 0, api.ErrLong)
	wantDouble(9, 0, api.ErrNoMsg)
}

// TestNumbersP24_1: the first message has the number 1, each later one the next, also where the last one, or all, were taken out.
func TestNumbersP24_1(t *testing.T) {
	b := bag.New()
	for want := 1; want <= 2*most; want++ {
		if id := put(t, b, message(0, 1, 2, "a")); id != want {
			t.Fatalf("P24.1: the number %d, want %d", id, want)
		}
		if m, err := b.Take(want); err != api.OK || m.ID != want {
			t.Fatalf("P24.1: Take(%d) = %s, %d", want, brief(m), err)
		}
	}
	p := pairOf(t)
	p.fill(5)
	for _, id := range []int{5, 1, 3} {
		p.take(id)
		p.put(message(0, 1, 2, "b"))
		p.look()
	}
	p.take(8)
	p.double(7)
	p.look()
	if m, ok := p.b.Get(9); !ok || m.ID != 9 {
		t.Errorf("P24.1: the double: %s, %v", brief(m), ok)
	}
}

// TestRefusedHasNoNumberP24_1: what is refused uses up no number.
func TestRefusedHasNoNumberP24_1(t *testing.T) {
	p := pairOf(t)
	p.put(message(0, 1, 2, text(longest+1)))
	p.double(1)
	p.take(1)
	p.fill(most)
	p.put(message(0, 1, 2, "a"))
	p.double(1)
	p.take(1)
	if id := put(t, p.b, message(0, 1, 2, "a")); id != most+1 {
		t.Errorf("P24.1: the number %d, want %d", id, most+1)
	}
}

// TestHandedIDP24_1: the ID that Put is handed does not matter.
func TestHandedIDP24_1(t *testing.T) {
	p := pairOf(t)
	for _, id := range edges {
		p.put(message(id, 3, 4, "a"))
		p.look()
	}
	for i, m := range p.b.List() {
		if m.ID != i+1 {
			t.Errorf("P24.1: the message %d has the ID %d", i+1, m.ID)
		}
	}
	p.take(2)
	p.put(message(2, 3, 4, "b"))
	p.get(2)
	p.look()
}

// TestBodyP24_2: a Body has up to MaxMessage bytes; an empty one and none are the same.
func TestBodyP24_2(t *testing.T) {
	p := pairOf(t)
	for _, body := range [][]byte{nil, {}, make([]byte, 0, 8), {0}, []byte(text(longest - 1)), []byte(text(longest)), []byte(text(longest + 1)), []byte(text(1 << 20))} {
		p.put(api.Message{From: 1, To: 2, Body: body})
		p.look()
	}
	if p.b.Len() != 6 {
		t.Errorf("P24.2: %d messages, want 6", p.b.Len())
	}
	none, _ := p.b.Get(1)
	for id := 1; id <= 3; id++ {
		p.double(id)
		m, _ := p.b.Get(id)
		wantMessage(t, "P24.2: an empty Body", api.Message{From: m.From, To: m.To, Body: m.Body}, message(0, 1, 2, ""))
		if (m.Body == nil) != (none.Body == nil) {
			t.Error("P24.2: nil and an empty Body are told apart")
		}
	}
	p.look()
}

// TestAnyNodesP24_2: From and To are any ints.
func TestAnyNodesP24_2(t *testing.T) {
	p := pairOf(t)
	for _, from := range edges {
		for _, to := range edges {
			p.put(message(0, from, to, "a"))
		}
	}
	p.look()
	p.double(1)
	if m, ok := p.b.Get(len(p.m.laid)); !ok || m.From != math.MinInt || m.To != math.MinInt {
		t.Errorf("P24.5: %s, %v", brief(m), ok)
	}
}

// TestFullP24: a bag that is one short of full, and full, and both again behind a Take.
func TestFullP24(t *testing.T) {
	for _, double := range []bool{false, true} {
		p := pairOf(t)
		add := func(id int, want api.Errno) {
			t.Helper()
			got, err := 0, api.OK
			if double {
				got, err = p.b.Double(id)
				p.m.double(id)
			} else {
				got, err = p.b.Put(message(0, 1, 2, "a"))
				p.m.put(1, 2, "a")
			}
			if err != want || err != api.OK && got != 0 {
				t.Errorf("P24.2, P24.5: a bag of %d: %d, %d, want %d", p.b.Len(), got, err, want)
			}
		}
		p.fill(most - 1)
		if p.b.Room() != 1 {
			t.Errorf("P24.6: Room %d, want 1", p.b.Room())
		}
		add(7, api.OK)
		add(7, api.ErrBagged)
		p.look()
		p.take(most)
		add(7, api.OK)
		add(7, api.ErrBagged)
		p.take(1)
		p.take(2)
		add(7, api.OK)
		add(7, api.OK)
		add(7, api.ErrBagged)
		p.look()
	}
}

// TestOrderOfRefusalsP24: in a full bag a Body that is too long is ErrLong, and a double of what is not there ErrNoMsg.
func TestOrderOfRefusalsP24(t *testing.T) {
	p := pairOf(t)
	p.fill(most)
	id, err := p.b.Put(message(0, 1, 2, text(longest+1)))
	wantNumber(t, "P24.2: Put of too much", id, err, 0, api.ErrLong)
	id, err = p.b.Put(message(0, 1, 2, text(longest)))
	wantNumber(t, "P24.2: Put", id, err, 0, api.ErrBagged)
	for _, n := range []int{math.MinInt, -1, 0, most + 1, math.MaxInt} {
		id, err = p.b.Double(n)
		wantNumber(t, "P24.5: Double of none", id, err, 0, api.ErrNoMsg)
	}
	for _, n := range []int{1, 2, most - 1, most} {
		id, err = p.b.Double(n)
		wantNumber(t, "P24.5: Double", id, err, 0, api.ErrBagged)
	}
	p.look()
}

// TestNoSuchNumberP24: the ends of the ints, 0 and below, the next number, and one that was taken are no message's.
func TestNoSuchNumberP24(t *testing.T) {
	empty, p := pairOf(t), pairOf(t)
	p.fill(3)
	p.take(2)
	for _, id := range []int{math.MinInt, math.MinInt + 1, -3, -1, 0, 2, 4, 5, math.MaxInt - 1, math.MaxInt} {
		for _, q := range []*pair{empty, p} {
			m, ok := q.b.Get(id)
			wantMessage(t, "P24.3: Get", m, api.Message{})
			took, err := q.b.Take(id)
			wantMessage(t, "P24.4: Take", took, api.Message{})
			if ok || err != api.ErrNoMsg {
				t.Errorf("P24.3, P24.4: of %d: %v, %d", id, ok, err)
			}
			n, err := q.b.Double(id)
			wantNumber(t, "P24.5: Double", n, err, 0, api.ErrNoMsg)
			q.look()
		}
	}
}

// TestGetStaysP24_3: a message that was got is there still.
func TestGetStaysP24_3(t *testing.T) {
	p := pairOf(t)
	p.fill(4)
	for range 3 {
		p.get(3)
	}
	p.look()
	p.take(3)
	p.get(3)
}

// TestTakenOnceP24_4: a message is taken once under its number, and its double once more under the other one.
func TestTakenOnceP24_4(t *testing.T) {
	p := pairOf(t)
	p.fill(3)
	p.double(2)
	for range 2 {
		for _, id := range []int{2, 4} {
			p.take(id)
			p.look()
			p.double(id)
			p.get(id)
		}
	}
	if p.b.Len() != 2 {
		t.Errorf("P24.4: %d messages, want 2", p.b.Len())
	}
}

// TestDoubleP24_5: the double has the same From, To and Body, whichever of both is there still; a double is doubled likewise.
func TestDoubleP24_5(t *testing.T) {
	p := pairOf(t)
	put(t, p.b, message(9, -5, 7, "body"))
	p.m.put(-5, 7, "body")
	p.double(1)
	p.take(1)
	p.double(2)
	for id := 2; id <= 3; id++ {
		m, ok := p.b.Get(id)
		if !ok || !same(m, message(id, -5, 7, "body")) {
			t.Errorf("P24.5: Get(%d) = %s, %v", id, brief(m), ok)
		}
	}
	p.double(1)
	p.look()
}

// TestListP24_6: an empty bag, one with gaps, and a full one, by rising number.
func TestListP24_6(t *testing.T) {
	p := pairOf(t)
	if l := p.b.List(); len(l) != 0 {
		t.Errorf("P24.6: List of an empty bag: %s", briefs(l))
	}
	p.fill(9)
	for _, id := range []int{1, 4, 5, 9} {
		p.take(id)
	}
	var ids []int
	for _, m := range p.b.List() {
		ids = append(ids, m.ID)
	}
	if !slices.Equal(ids, []int{2, 3, 6, 7, 8}) {
		t.Errorf("P24.6: the numbers %v", ids)
	}
	p.fill(most)
	l := p.b.List()
	if len(l) != most || p.b.Len() != most || p.b.Room() != 0 || !slices.IsSortedFunc(l, func(x, y api.Message) int { return x.ID - y.ID }) {
		t.Errorf("P24.6: a full bag: %d messages, Len %d, Room %d", len(l), p.b.Len(), p.b.Room())
	}
	p.look()
	for id := 1; id <= len(p.m.laid); id++ {
		p.take(id)
	}
	p.look()
}

// TestNothingLostP24_7: what is there and what was taken are together all that was put or doubled, each once.
func TestNothingLostP24_7(t *testing.T) {
	r := chance(7)
	for range 40 {
		b := bag.New()
		made, taken := map[int]api.Message{}, map[int]api.Message{}
		for range 150 {
			id := r.IntN(len(made) + 2)
			switch r.IntN(3) {
			case 0:
				m := message(0, r.IntN(4), r.IntN(4), text(r.IntN(6)))
				m.ID = put(t, b, m)
				made[m.ID] = m
			case 1:
				if n, err := b.Double(id); err == api.OK {
					m := made[id]
					m.ID = n
					made[n] = m
				}
			case 2:
				m, err := b.Take(id)
				if _, twice := taken[id]; twice && err == api.OK {
					t.Fatalf("P24.7: %d is taken twice", id)
				}
				if err == api.OK {
					taken[id] = m
				}
			}
		}
		all := b.List()
		for _, m := range taken {
			all = append(all, m)
		}
		for _, m := range all {
			if want, ok := made[m.ID]; !ok || !same(m, want) {
				t.Errorf("P24.7: %s was never put, want %s", brief(m), brief(want))
			}
			delete(made, m.ID)
		}
		if len(made) > 0 {
			t.Errorf("P24.7: lost, or there twice: %d messages", len(made))
		}
	}
}

package bag_test

import (
	"bytes"
	"fmt"
	"math"
	"math/rand/v2"
	"slices"
	"strings"
	"testing"

	"farebox/api"
	"farebox/bag"
)

const (
	longest = 1024 // bytes of a Body
	most    = 4096 // messages of a bag
)

// edges are the numbers by the ends of an int, around 0 and around the limit.
var edges = []int{math.MinInt, math.MinInt + 1, -4096, -2, -1, 0, 1, 2, 4095, 4096, 4097, math.MaxInt - 1, math.MaxInt}

func chance(n uint64) *rand.Rand { return rand.New(rand.NewPCG(24, n)) }

// text is a Body of n bytes.
func text(n int) string { return strings.Repeat("x", n) }

// message is one laid out by hand.
func message(id, from, to int, body string) api.Message {
	return api.Message{ID: id, From: from, To: to, Body: []byte(body)}
}

// same compares messages; a Body of nil and an empty one are the same.
func same(x, y api.Message) bool {
	return x.ID == y.ID && x.From == y.From && x.To == y.To && bytes.Equal(x.Body, y.Body)
}

// brief is a message, of a long Body its beginning alone.
func brief(m api.Message) string {
	return fmt.Sprintf("{%d, %d, %d, %.20q of %d}", m.ID, m.From, m.To, m.Body, len(m.Body))
}

// briefs are the messages of a list, of a long one the first ones alone.
func briefs(list []api.Message) string {
	told := fmt.Sprintf("%d:", len(list))
	for _, m := range list[:min(len(list), 12)] {
		told += " " + brief(m)
	}
	return told
}

// model is a bag by the chapter's words: all messages that were ever laid in, in the order of their numbers, and which of them were taken.
type model struct {
	laid  []api.Message
	taken map[int]int
}

func (m *model) there() int { return len(m.laid) - len(m.taken) }

func (m *model) find(id int) (api.Message, bool) {
	if id < 1 || id > len(m.laid) || m.taken[id] > 0 {
		return api.Message{}, false
	}
	return m.laid[id-1], true
}

func (m *model) put(from, to int, body string) (int, api.Errno) {
	switch {
	case len(body) > longest:
		return 0, api.ErrLong
	case m.there() >= most:
		return 0, api.ErrBagged
	}
	id := len(m.laid) + 1
	m.laid = append(m.laid, message(id, from, to, body))
	return id, api.OK
}

func (m *model) take(id int) (api.Message, api.Errno) {
	x, ok := m.find(id)
	if !ok {
		return api.Message{}, api.ErrNoMsg
	}
	m.taken[id]++
	return x, api.OK
}

func (m *model) double(id int) (int, api.Errno) {
	x, ok := m.find(id)
	if !ok {
		return 0, api.ErrNoMsg
	}
	return m.put(x.From, x.To, string(x.Body))
}

func (m *model) list() []api.Message {
	var all []api.Message
	for _, x := range m.laid {
		if m.taken[x.ID] == 0 {
			all = append(all, x)
		}
	}
	return all
}

// pair is a bag and its model, which are told the same; each answer of the bag is held against the model's.
type pair struct {
	t *testing.T
	b *bag.Bag
	m *model
}

func pairOf(t *testing.T) *pair {
	t.Helper()
	p := &pair{t, bag.New(), &model{taken: map[int]int{}}}
	p.look()
	return p
}

func wantNumber(t *testing.T, what string, id int, err api.Errno, want int, wantErr api.Errno) {
	t.Helper()
	if id != want || err != wantErr {
		t.Errorf("%s = %d, %d, want %d, %d", what, id, err, want, wantErr)
	}
}

func wantMessage(t *testing.T, what string, got, want api.Message) {
	t.Helper()
	if !same(got, want) {
		t.Errorf("%s = %s, want %s", what, brief(got), brief(want))
	}
}

func wantList(t *testing.T, what string, got, want []api.Message) {
	t.Helper()
	if !slices.EqualFunc(got, want, same) {
		t.Errorf("%s = %s, want %s", what, briefs(got), briefs(want))
	}
}

func (p *pair) put(m api.Message) {
	p.t.Helper()
	id, err := p.b.Put(m)
	want, wantErr := p.m.put(m.From, m.To, string(m.Body))
	wantNumber(p.t, "P24.2: Put", id, err, want, wantErr)
}

func (p *pair) get(id int) {
	p.t.Helper()
	m, ok := p.b.Get(id)
	want, wantOK := p.m.find(id)
	wantMessage(p.t, "P24.3: Get", m, want)
	if ok != wantOK {
		p.t.Errorf("P24.3: Get(%d): %v, want %v", id, ok, wantOK)
	}
}

func (p *pair) take(id int) {
	p.t.Helper()
	m, err := p.b.Take(id)
	want, wantErr := p.m.take(id)
	wantMessage(p.t, "P24.4: Take", m, want)
	if err != wantErr {
		p.t.Errorf("P24.4: Take(%d): %d, want %d", id, err, wantErr)
	}
}

func (p *pair) double(id int) {
	p.t.Helper()
	got, err := p.b.Double(id)
	want, wantErr := p.m.double(id)
	wantNumber(p.t, "P24.5: Double", got, err, want, wantErr)
}

// look asks a bag everything that it tells.
func (p *pair) look() {
	p.t.Helper()
	n := p.m.there()
	if p.b.Len() != n || p.b.Room() != most-n {
		p.t.Errorf("P24.6: Len %d, Room %d, want %d, %d", p.b.Len(), p.b.Room(), n, most-n)
	}
	wantList(p.t, "P24.6: List", p.b.List(), p.m.list())
	for id := -1; id <= len(p.m.laid)+1; id++ {
		p.get(id)
	}
}

// fill puts messages till so many are there.
func (p *pair) fill(n int) {
	p.t.Helper()
	for p.m.there() < n {
		id := len(p.m.laid) + 1
		p.put(message(0, id, -id, text(id%5)))
	}
}

// drawMessage is one by chance, of which now and then the Body is too long.
func drawMessage(r *rand.Rand) api.Message {
	m := message(r.IntN(9)-2, r.IntN(5)-1, r.IntN(5)-1, text(r.IntN(4)))
	switch r.IntN(8) {
	case 0:
		m.ID, m.From, m.To = edges[r.IntN(len(edges))], edges[r.IntN(len(edges))], edges[r.IntN(len(edges))]
	case 1:
		m.Body = []byte(text(longest - 1 + r.IntN(3)))
	case 2:
		m.Body = nil
	}
	return m
}

// step tells both one thing by chance.
func (p *pair) step(r *rand.Rand) {
	p.t.Helper()
	id := r.IntN(len(p.m.laid)+3) - 1
	if r.IntN(12) == 0 {
		id = edges[r.IntN(len(edges))]
	}
	switch r.IntN(6) {
	case 0, 1:
		p.put(drawMessage(r))
	case 2:
		p.double(id)
	case 3:
		p.get(id)
	default:
		p.take(id)
	}
}

// TestModelP24: any order of calls, each answer held against the model.
func TestModelP24(t *testing.T) {
	for n := range uint64(150) {
		r, p := chance(n), pairOf(t)
		for range 80 {
			p.step(r)
			p.look()
		}
		if t.Failed() {
			t.Fatalf("run %d", n)
		}
	}
}

// TestModelByTheBoundP24: any order of calls by the bound of a bag.
func TestModelByTheBoundP24(t *testing.T) {
	r, p := chance(1000), pairOf(t)
	p.fill(most - 3)
	full := 0
	for i := range 4000 {
		p.step(r)
		if r.IntN(3) == 0 {
			p.put(drawMessage(r))
		}
		if p.m.there() == most {
			full++
		}
		if i%500 == 0 {
			p.look()
		}
	}
	p.look()
	if full < 100 || full > 3900 {
		t.Errorf("the bag was full behind %d calls", full)
	}
}

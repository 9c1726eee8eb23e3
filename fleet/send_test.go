package fleet_test

import (
	"fmt"
	"slices"
	"testing"

	"farebox/api"
	"farebox/fleet"
	"farebox/terms"
)

// fill doubles a message till the bag has room for so many more.
func (r *rig) fill(id, room int) *rig {
	r.t.Helper()
	for r.do("bag") != fmt.Sprintf("ok %d %d", api.MaxBag-room, room) {
		if reply := r.f.Do(api.Op{Kind: api.OpDouble, Count: id}); reply.Err != api.OK {
			r.t.Fatalf("double %d = %+v", id, reply)
		}
	}
	return r
}

// TestNumbersP26_4: behind the answer's own numbers stands that of each message, in their order.
func TestNumbersP26_4(t *testing.T) {
	r := begin(t, config)
	r.step("buy 1 3 100", "ok 1 1", "out 3 order")
	r.step("buy 2 2 50", "ok 1 2", "out 4 order")
	r.step("deliver 2", "ok 1 3", "issue 0 serial 1 index 2 amount 50", "out 0 cert")
	r.step("deliver 3", "ok 1 1")
	r.step("ride 2 1 2", "ok 1 1 4", "reveal 4 serial 1 index 1", "out 4 ticket")
	r.step("deliver 4", "ok 1 1", "accept 2 serial 1 index 1", "store 2 serial 1 index 1")
	r.step("freeze 1", "ok 1 5 6", "out 0 freeze", "out 0 freeze")
	r.step("deliver 6", "ok 1 1 7", "store 2 serial 1 index 1", "retire 2 serial 1", "out 2 ack")
	r.step("deliver 5", "ok 1 0 8", "store 1 serial 1", "retire 1 serial 1", "out 1 ack")
	r.step("floor 1", "ok 1 9 10", "out 0 floor", "out 0 floor")
	r.step("deliver 10", "ok 1", "retire 2 index 1")
	r.step("gossip 2 1", "ok 2 11 12", "out 2 floor", "out 2 entry")
	r.step("sync 2 1", "ok 2 13 14", "out 2 floor", "out 2 entry")
	r.step("sync 1 2", "ok 0")
	r.step("deliver 7", "ok 1 1 1")
	r.step("deliver 8", "ok 1 1 0")
	r.step("pay 1", "ok 1 50 15", "pay 0 serial 1 index 1 amount 50", "out 0 receipt")
	r.step("deliver 15", "ok 1 50")
	var got []string
	for _, m := range r.f.Bag() {
		got = append(got, fmt.Sprint(m.ID, m.From, m.To))
	}
	if want := []string{"1 3 0", "9 0 1", "11 2 1", "12 2 1", "13 2 1", "14 2 1"}; !slices.Equal(got, want) {
		t.Errorf("P26.4: the bag is %q, want %q", got, want)
	}
}

// TestFullBagP26_4: what the bag has no room for is told, and is lost.
func TestFullBagP26_4(t *testing.T) {
	r := sold(t, config).all("buy 2 1 9 -> ok 1 3").fill(3, 0)
	bag := r.f.Bag()
	r.step("buy 1 1 5", "ok 2 0", "out 3 order")
	r.step("freeze 1", "ok 1 0 0", "out 0 freeze", "out 0 freeze")
	r.still("double 3", "error 241")
	r.still("double 2", "error 240")
	if !slices.EqualFunc(r.f.Bag(), bag, sameMessage) {
		t.Error("P26.4: a full bag has changed")
	}
	r.step("drop 5", "ok")
	r.step("freeze 1", "ok 1 4099 0", "out 0 freeze", "out 0 freeze")
	// A message that is delivered makes room for what comes of it.
	r.step("deliver 3", "ok 2 4100", "issue 0 serial 2 index 1 amount 9", "out 0 cert")
	r.all("bag -> ok 4096 0")
}

// TestToNobodyP26_4: what is for nobody is told, and not laid down.
func TestToNobodyP26_4(t *testing.T) {
	r := begin(t, config)
	order := told(terms.EncodeOrder, api.Order{Rides: 2, Price: 3, Anchor: api.Hash{4}})
	r.step(injectLine(0, order), "ok 1 0", "inject 0 order", "issue 0 serial 1 index 2 amount 3", "out 0 cert")
	r.all("bag -> ok 0 4096")
	r.step("buy 1 1 1", "ok 1 1", "out 3 order")
	r.step("freeze 1", "ok 1 2 3", "out 0 freeze", "out 0 freeze")
	r.step("deliver 2", "ok 1 0 4", "store 1 serial 1", "retire 1 serial 1", "out 1 ack")
	r.step("deliver 3", "ok 1 0 5", "store 2 serial 1", "retire 2 serial 1", "out 2 ack")
	r.step("deliver 4", "ok 1 0 1")
	r.step("deliver 5", "ok 1 0 0")
	// Nobody's carnet has no receipt to send.
	r.step("pay 1", "ok 2 6", "pay 0 serial 1 index 2 amount 6")
}

// manyWallets is a fleet of which later ones with fewer wallets go on with the issuer: a carnet is the last wallet's, and a snapshot says so.
func manyWallets(t *testing.T) (api.Config, *rig) {
	t.Helper()
	c := api.Config{Gates: 2, Wallets: 3, Rows: 4, Flash: 1100, Serials: 2, Secret: api.Hash{3}}
	r := begin(t, c).all("buy 3 2 100 -> ok 1 1", "deliver 1 -> ok 1 2", "deliver 2 -> ok 1 1", "freeze 1 -> ok 1 3 4", "deliver 3 -> ok 1 0 5", "deliver 4 -> ok 1 0 6")
	x := foreign{chain: api.Hash{4}, rides: 20}
	r.all(injectLine(0, x.order())+" -> ok 2 0", "freeze 2 -> ok 2 7 8")
	// Acknowledgements that rise fill the journal, and do not make the snapshot greater.
	for index := 1; len(r.f.Files()[0].Second) == 0; index++ {
		r.all(injectLine(0, x.ack(c, 2, 1, index)) + fmt.Sprintf(" -> ok 2 %d 1", index))
	}
	return c, r
}

// TestToNoNodeP26_4: a message to a number above all nodes, which a snapshot of another fleet's issuer asks for, is told, and not laid down.
func TestToNoNodeP26_4(t *testing.T) {
	c, old := manyWallets(t)
	acks := old.f.Bag()
	for wallets := 3; wallets > 0; wallets-- {
		c.Wallets = wallets
		r := resume(t, c, old.f.Files()[:nodesOf(c)])
		if s, _ := r.f.Issuer(); s.Carnets[0].Owner != 5 {
			t.Fatalf("the carnet is %+v", s.Carnets[0])
		}
		r.step(injectLine(0, acks[0].Body), "ok 1 0 1", "inject 0 ack")
		r.step(injectLine(0, acks[1].Body), "ok 1 0 0", "inject 0 ack")
		want := "ok 2 200 0"
		if wallets == 3 {
			want = "ok 2 200 1"
		}
		r.step("pay 1", want, "pay 0 serial 1 index 2 amount 200", "out 0 receipt")
		if got := len(r.f.Bag()); wallets == 3 && got != 1 || wallets < 3 && got != 0 {
			t.Errorf("P26.4: %d wallets, in the bag are %d messages", wallets, got)
		}
	}
}

// TestNoNumbersP26_4: behind a reply that is not OK there is no number, and nothing goes out.
func TestNoNumbersP26_4(t *testing.T) {
	r := busy(t)
	for _, x := range []struct{ line, want string }{
		{"buy 1 0 1", "error 2"}, {"ride 1 2 1", "error 180"}, {"ride 1 1 3", "error 2"}, {"gossip 1 1", "error 2"}, {"sync 2 2", "error 2"},
		{"freeze 9", "error 230"}, {"pay 1", "error 232"}, {"pay 2", "error 211"}, {"revoke -1", "error 230"}, {"floor 8", "error 2"},
	} {
		r.still(x.line, x.want)
	}
}

// downCase is an operation at which a node goes down; ahead stands what leads to it.
type downCase struct {
	number int
	line   string
	ahead  []string
	asked  string // tells whether it was done
	done   string
	not    string
}

func downCases() []downCase {
	return []downCase{
		{3, "buy 1 1 1", nil, "ride 1 1 1", "error 180", "error 180"},
		{3, "ride 1 1 1", []string{"deliver 1", "deliver 2"}, "purse 1 1", "ok 3 1 0", "ok 3 0 0"},
		{3, "deliver 2", []string{"deliver 1"}, "purse 1 1", "ok 3 0 0", "error 180"},
		{0, "deliver 1", nil, "carnet 1", "ok 1 3 100 0 0 0", "error 230"},
		{0, "freeze 1", []string{"deliver 1"}, "carnet 1", "ok 2 3 100 0 0 0", "ok 1 3 100 0 0 0"},
		{0, "pay 1", []string{"deliver 1", "deliver 2", "freeze 1", "deliver 3", "deliver 4", "deliver 5", "deliver 6"}, "carnet 1", "ok 3 3 100 0 2 300", "ok 2 3 100 0 2 0"},
		{0, "revoke 1", []string{"deliver 1"}, "carnet 1", "ok 4 3 100 0 0 0", "ok 1 3 100 0 0 0"},
		{0, "floor 2", []string{"deliver 1"}, "carnet 1", "ok 4 3 100 0 0 0", "ok 1 3 100 0 0 0"},
		{1, "deliver 3", []string{"deliver 1", "freeze 1"}, "row 1 1", "ok 0 1 0", "error 230"},
		{2, "deliver 4", []string{"deliver 1", "revoke 1"}, "row 2 1", "ok 0 0 1", "error 230"},
		{1, "deliver 3", []string{"deliver 1", "deliver 2", "ride 1 1 1"}, "row 1 1", "ok 1 0 0", "error 230"},
	}
}

// TestDownP26_5: the node is down, the reply is ErrDown alone, and nothing of the answer goes out, be the operation done or not.
func TestDownP26_5(t *testing.T) {
	for _, x := range downCases() {
		for keep, want := range map[int]string{0: x.not, 30000: x.done} {
			r := begin(t, config).all("buy 1 3 100 -> ok 1 1")
			for _, line := range x.ahead {
				if r.do(line)[:2] != "ok" {
					t.Fatalf("%s is refused", line)
				}
			}
			bag := r.f.Bag()
			r.all(fmt.Sprintf("crash %d 1 %d -> ok", x.number, keep))
			r.step(x.line, down, fmt.Sprintf("down %d", x.number))
			o := op(t, x.line)
			bag = slices.DeleteFunc(bag, func(m api.Message) bool { return o.Kind == api.OpDeliver && m.ID == o.Count })
			if up := r.f.Up(); up[x.number] || len(slices.DeleteFunc(up, func(up bool) bool { return !up })) != nodesOf(config)-1 {
				t.Errorf("P26.5: behind %s up are %v", x.line, r.f.Up())
			}
			if !slices.EqualFunc(r.f.Bag(), bag, sameMessage) {
				t.Errorf("P26.5: behind %s the bag is %v, want %v", x.line, r.f.Bag(), bag)
			}
			r.still(x.line, map[bool]string{true: "error 240", false: down}[o.Kind == api.OpDeliver])
			r.step(fmt.Sprintf("restart %d", x.number), "ok", fmt.Sprintf("restart %d", x.number))
			r.all(x.asked + " -> " + want)
		}
	}
}

// TestDownInjectedP26_5: what was injected is told, and behind it that the node is down.
func TestDownInjectedP26_5(t *testing.T) {
	r := begin(t, config)
	order := told(terms.EncodeOrder, api.Order{Rides: 2, Price: 3, Anchor: api.Hash{4}})
	for number, body := range map[int][]byte{0: order, 2: floorBody(config, 3)} {
		r.all(fmt.Sprintf("crash %d 1 3 -> ok", number))
		r.step(injectLine(number, body), down, fmt.Sprintf("inject %d %s", number, map[int]string{0: "order", 2: "floor"}[number]), fmt.Sprintf("down %d", number))
	}
	if f, err := fleet.Resume(config, r.f.Files()); err != api.OK || !slices.Equal(f.Up(), slices.Repeat([]bool{true}, 5)) {
		t.Errorf("P26.2: Resume behind it: %d", err)
	}
}

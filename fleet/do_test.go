package fleet_test

import (
	"fmt"
	"math"
	"slices"
	"testing"

	"farebox/api"
	"farebox/script"
	"farebox/terms"
)

// asked is what kind of node an operation asks for.
type asked int

const (
	aWallet asked = iota
	aGate
	anyNode   // up
	anyAtAll  // up or down
	theIssuer // whatever its Node says
	noNode    // none at all
)

// askedBy are the kinds of operations, from 1 on.
var askedBy = []asked{
	api.OpBuy: aWallet, api.OpRide: aWallet, api.OpGossip: aGate, api.OpSync: aGate, api.OpFreeze: theIssuer, api.OpPay: theIssuer, api.OpRevoke: theIssuer, api.OpFloor: theIssuer,
	api.OpDeliver: noNode, api.OpDrop: noNode, api.OpDouble: noNode, api.OpInject: anyNode, api.OpCrash: anyAtAll, api.OpRestart: anyAtAll, api.OpHead: theIssuer,
	api.OpRow: aGate, api.OpCarnet: theIssuer, api.OpPurse: aWallet, api.OpMoney: theIssuer, api.OpBag: noNode, api.OpState: noNode,
}

// someNumbers are those of all nodes, and others below and above.
var someNumbers = []int{math.MinInt, math.MinInt + 1, -2, -1, 0, 1, 2, 3, 4, 5, 6, math.MaxInt - 1, math.MaxInt}

// there tells whether an operation of a kind has a node of that number.
func there(c api.Config, kind, number int) bool {
	switch askedBy[kind] {
	case aWallet:
		return number >= 1 && number <= c.Wallets
	case aGate:
		return number >= 1 && number <= c.Gates
	case anyNode, anyAtAll:
		return number >= 0 && number <= c.Gates+c.Wallets
	}
	return true
}

// wantRefused asks that an operation is refused, and changes and tells nothing.
func (r *rig) wantRefused(o api.Op, want api.Errno) {
	r.t.Helper()
	was, events := lookAt(r.c, r.f), len(r.f.Trace())
	if got := r.f.Do(o); !sameReply(got, api.Reply{Err: want}) {
		r.t.Fatalf("%+v = %s, want %d", o, script.Show(got), want)
	}
	r.wantStill(fmt.Sprintf("%+v", o), was, events)
}

// TestNodesP26_7: and so P26.8, P26.9, P26.11, P26.12. There is no node of that number: ErrNode; it is down: ErrDown, whatever else the operation says.
func TestNodesP26_7(t *testing.T) {
	up, down := busy(t), busy(t)
	for number := range nodesOf(config) {
		down.fell(number)
	}
	for kind := 1; kind < len(askedBy); kind++ {
		for _, number := range someNumbers {
			for _, o := range []api.Op{
				{Kind: kind, Node: number, Other: 1, Count: 1},
				{Kind: kind, Node: number, Other: -1, Count: -1, Price: -1, Body: []byte("no message")},
				{Kind: kind, Node: number, Other: 99, Count: math.MaxInt, Price: math.MaxInt64},
			} {
				if kind == api.OpSync {
					o.Other = 1
				}
				switch {
				case !there(config, kind, number):
					up.wantRefused(o, api.ErrNode)
					down.wantRefused(o, api.ErrNode)
				case askedBy[kind] == anyAtAll || askedBy[kind] == noNode:
				default:
					down.wantRefused(o, api.ErrDown)
					// None of these would bring the nodes that are up down, or stay without a word.
					if got := up.f.Do(o); got.Err == api.ErrNode || got.Err == api.ErrDown {
						t.Errorf("%+v of a node that is up = %s", o, script.Show(got))
					}
				}
			}
		}
	}
}

// TestSyncNodesP26_8: both must be gates, and both must be up.
func TestSyncNodesP26_8(t *testing.T) {
	r := busy(t)
	for _, a := range someNumbers {
		for _, b := range someNumbers {
			if !there(config, api.OpSync, a) || !there(config, api.OpSync, b) {
				r.wantRefused(api.Op{Kind: api.OpSync, Node: a, Other: b}, api.ErrNode)
			}
		}
	}
	r.still("sync 1 1", "error 2")
	r.fell(1)
	r.still("sync 1 2", down)
	r.still("sync 2 1", down)
	r.still("sync 1 1", down)
	r.still("sync 1 3", "error 260")
	r.still("sync 0 1", "error 260")
	r.step("gossip 2 1", "ok 1 11", "out 2 entry")
	r.all("restart 1 -> ok").fell(2)
	r.still("sync 1 2", down)
	r.still("sync 2 1", down)
	r.still("sync 3 2", "error 260")
	r.step("gossip 1 2", "ok 1 12", "out 1 entry")
	r.still("gossip 1 3", "error 2")
	r.still("gossip 1 1", "error 2")
}

// TestSyncP26_8: what the other gate lacks by its own state, and the floor.
func TestSyncP26_8(t *testing.T) {
	r := begin(t, config)
	for serial := 3; serial <= 5; serial++ {
		r.do(injectLine(1, theirs.entry(config, serial, serial-2)))
	}
	r.do(injectLine(2, theirs.entry(config, 3, 1)))
	r.do(injectLine(2, theirs.flagged(config, 4, 1, false)))
	r.step("sync 1 2", "ok 2 1 2", "out 1 entry", "out 1 entry") // serial 4 with a greater index, and serial 5
	r.step("sync 2 1", "ok 1 3", "out 2 entry")                  // that serial 4 is frozen
	r.all("deliver 1 -> ok 4 2 1", "deliver 2 -> ok 5 3 1", "deliver 3 -> ok 4 2 1")
	r.step("sync 1 2", "ok 0")
	r.step("sync 2 1", "ok 0")
	r.step("gossip 2 1", "ok 3 4 5 6", "out 2 entry", "out 2 entry", "out 2 entry")
}

// TestWalletP26_7: the answers of Buy and Ride.
func TestWalletP26_7(t *testing.T) {
	r := begin(t, config)
	for _, x := range []struct{ line, want string }{
		{"buy 1 0 1", "error 2"}, {"buy 1 -1 1", "error 2"}, {"buy 1 4097 1", "error 2"}, {"buy 2 1 -1", "error 2"}, {"buy 2 1 1000000001", "error 2"},
		{"ride 1 0 1", "error 180"}, {"ride 1 1 1", "error 180"}, {"ride 2 -1 9", "error 180"},
	} {
		r.still(x.line, x.want)
	}
	r.all("buy 2 4096 1000000000 -> ok 1 1", "buy 2 1 0 -> ok 2 2", "buy 1 1 0 -> ok 1 3", "deliver 2 -> ok 1 4", "deliver 4 -> ok 1 2")
	r.still("ride 1 1 1", "error 180")
	r.still("ride 2 1 0", "error 2")
	r.still("ride 2 1 3", "error 2")
	r.step("ride 2 1 2", "ok 1 1 5", "reveal 4 serial 1 index 1", "out 4 ticket")
	if m := r.f.Bag()[2]; m.ID != 5 || m.From != 4 || m.To != 2 {
		t.Errorf("P26.7: the ticket is %+v", m)
	}
	r.still("ride 2 1 2", "error 181")
}

// TestIssuerP26_9: the answers of Freeze, Pay, Revoke and Raise, whatever else the operation says.
func TestIssuerP26_9(t *testing.T) {
	r := sold(t, config)
	for _, x := range []struct{ line, want string }{
		{"freeze 0", "error 230"}, {"freeze 2", "error 230"}, {"pay 0", "error 230"}, {"pay 1", "error 232"}, {"revoke 2", "error 230"},
		{"floor 0", "error 2"}, {"floor 8", "error 2"}, {"floor -1", "error 2"},
	} {
		r.still(x.line, x.want)
	}
	for _, kind := range []int{api.OpFreeze, api.OpFloor, api.OpRevoke} {
		reply := r.f.Do(api.Op{Kind: kind, Node: 77, Other: -3, Count: 1, Price: -9, Body: []byte{1}})
		if reply.Err != api.OK || len(reply.Nums) != 3 || reply.Nums[0] != 1 {
			t.Errorf("P26.9: kind %d = %s", kind, script.Show(reply))
		}
	}
	if reply := r.f.Do(api.Op{Kind: api.OpPay, Node: -5, Count: 1}); reply.Err != api.ErrStatus {
		t.Errorf("P26.9: pay = %s", script.Show(reply))
	}
	r.all("carnet 1 -> ok 4 3 100 0 0 0")
}

// TestDeliverP26_10: a message is taken out and handed on once; of what there is not, and of a node that is down, nothing happens.
func TestDeliverP26_10(t *testing.T) {
	r := busy(t)
	for _, id := range []int{math.MinInt, -1, 0, 1, 7, 11, 4097, math.MaxInt} {
		for _, kind := range []int{api.OpDeliver, api.OpDrop, api.OpDouble} {
			r.wantRefused(api.Op{Kind: kind, Node: 1, Other: 1, Count: id}, api.ErrNoMsg)
		}
	}
	for number, id := range map[int]int{0: 5, 1: 9, 2: 10} {
		r.fell(number)
		r.still(fmt.Sprintf("deliver %d", id), down)
	}
	r.still("deliver 7", "error 240")
	r.all("double 9 -> ok 11", "drop 9 -> ok")
	r.still("deliver 9", "error 240")
	r.still("deliver 11", down)
	r.all("restart 1 -> ok", "deliver 11 -> ok 2 0 12")
	r.still("deliver 11", "error 240")
	r.all("restart 0 -> ok", "deliver 12 -> ok 2 0 1")
	r.still("drop 12", "error 240")
	r.still("double 12", "error 240")
}

// TestDeliverRefusedP26_10: a message that the node refuses is out of the bag all the same.
func TestDeliverRefusedP26_10(t *testing.T) {
	r := sold(t, config).all("ride 1 1 1 -> ok 1 1 3", "double 3 -> ok 4", "deliver 4 -> ok 1 1")
	r.step("deliver 3", "error 190")
	r.all("bag -> ok 0 4096", "deliver 3 -> error 240")
}

// TestFromP26_10: the issuer is told whom an order comes from, and of one that was injected that nobody sent it.
func TestFromP26_10(t *testing.T) {
	r := begin(t, config).all("buy 2 1 1 -> ok 1 1", "double 1 -> ok 2", "buy 1 1 1 -> ok 1 3", "deliver 2 -> ok 1 4", "deliver 3 -> ok 2 5", "deliver 1 -> ok 1 6")
	r.given(0, theirs.order(), "ok 3 0", "issue 0 serial 3 index 5", "out 0 cert")
	s, _ := r.f.Issuer()
	var owners, to []int
	for _, c := range s.Carnets {
		owners = append(owners, c.Owner)
	}
	for _, m := range r.f.Bag() {
		to = append(to, m.To)
	}
	if !slices.Equal(owners, []int{4, 3, 0}) || !slices.Equal(to, []int{4, 3, 4}) {
		t.Errorf("P26.10: the owners are %d, the certificates go to %d", owners, to)
	}
	// One that an enemy brings first is nobody's, and the wallet has its certificate all the same.
	r.all("buy 2 1 7 -> ok 2 7")
	body := r.f.Bag()[3].Body
	r.all(injectLine(0, body)+" -> ok 4 0", "deliver 7 -> ok 4 8", "deliver 8 -> ok 4 2")
	if s, _ := r.f.Issuer(); s.Carnets[3].Owner != 0 {
		t.Errorf("P26.11: the owner of what was injected is %d", s.Carnets[3].Owner)
	}
}

// TestDropAndDoubleP26_10: what they answer, and what they leave.
func TestDropAndDoubleP26_10(t *testing.T) {
	r := begin(t, config).all("buy 1 1 1 -> ok 1 1", "buy 2 1 1 -> ok 1 2")
	r.step("double 2", "ok 3")
	r.step("double 3", "ok 4")
	r.step("drop 2", "ok")
	r.step("drop 1", "ok")
	bag := r.f.Bag()
	if len(bag) != 2 || bag[0].ID != 3 || bag[1].ID != 4 || bag[0].From != 4 || bag[1].To != 0 || string(bag[0].Body) != string(bag[1].Body) {
		t.Errorf("P26.10: the bag is %+v", bag)
	}
	// Neither asks whether the node is up.
	r.fell(0)
	r.step("double 4", "ok 5")
	r.step("drop 4", "ok")
}

// TestInjectP26_11: any bytes at every kind of node; what is refused is told as injected all the same.
func TestInjectP26_11(t *testing.T) {
	receipt := told(terms.EncodeReceipt, api.Receipt{Serial: 1, Amount: 1})
	head := told(terms.EncodeHead, api.Head{Size: 1})
	unsigned := told(terms.EncodeFreeze, api.Freeze{Cert: theirs.cert(config, 1)})
	for number := range nodesOf(config) {
		r := busy(t)
		was := lookAt(config, r.f)
		for _, x := range []struct {
			body []byte
			want map[int]api.Errno // by the node; the first one's, where none is named
		}{
			{nil, map[int]api.Errno{-1: api.ErrForm}},
			{[]byte{0}, map[int]api.Errno{-1: api.ErrForm}},
			{[]byte{'F', 'B', 1, 9}, map[int]api.Errno{-1: api.ErrDomain, 0: api.ErrForm}},
			{[]byte{'F', 'B', 1, 11}, map[int]api.Errno{-1: api.ErrDomain}},
			{[]byte{'F', 'B', 2, 1}, map[int]api.Errno{-1: api.ErrForm}},
			{make([]byte, 1024), map[int]api.Errno{-1: api.ErrForm}},
			{make([]byte, 1025), map[int]api.Errno{-1: api.ErrLong}},
			{make([]byte, 70000), map[int]api.Errno{-1: api.ErrLong}},
			{append(theirs.order(), make([]byte, 977)...), map[int]api.Errno{-1: api.ErrLong}},
			{head, map[int]api.Errno{-1: api.ErrDomain}},
			{receipt, map[int]api.Errno{-1: api.ErrDomain, 3: api.ErrSign, 4: api.ErrSign}},
			{unsigned, map[int]api.Errno{-1: api.ErrDomain, 1: api.ErrSign, 2: api.ErrSign}},
			{theirs.ack(config, 9, 1, 1), map[int]api.Errno{-1: api.ErrDomain, 0: api.ErrSerial}},
		} {
			want, named := x.want[number]
			if !named {
				want = x.want[-1]
			}
			events := len(r.f.Trace())
			reply := r.f.Do(api.Op{Kind: api.OpInject, Node: number, Body: x.body})
			told := r.f.Trace()[events:]
			if !sameReply(reply, api.Reply{Err: want}) {
				t.Errorf("P26.11: %d bytes at node %d = %s, want %d", len(x.body), number, script.Show(reply), want)
			}
			if len(told) != 1 || !sameEvent(told[0], api.Event{Kind: api.EventInject, Node: number, Body: x.body}) {
				t.Errorf("P26.11: %d bytes at node %d tell %q", len(x.body), number, tellEvents(told))
			}
			if !sameLook(lookAt(config, r.f), was) {
				t.Errorf("P26.20: %d bytes at node %d have changed the fleet", len(x.body), number)
			}
		}
	}
}

// TestCrashP26_11: what flash.Arm says, of a node that is up and of one that is down; the crashes come in their order, each counted from the one ahead.
func TestCrashP26_11(t *testing.T) {
	r := busy(t).fell(2)
	for number := range nodesOf(config) {
		for _, x := range [][2]int{{0, 1}, {-1, 1}, {1000001, 1}, {1, -1}, {1, 1048577}, {math.MinInt, math.MaxInt}, {math.MaxInt, 0}} {
			r.wantRefused(api.Op{Kind: api.OpCrash, Node: number, Count: x[0], Other: x[1]}, api.ErrArg)
		}
		for range 64 {
			r.still(fmt.Sprintf("crash %d 1000000 1048576", number), "ok")
		}
		r.still(fmt.Sprintf("crash %d 1 0", number), "error 1")
		r.still(fmt.Sprintf("crash %d 0 0", number), "error 2")
	}
	r = begin(t, config).all("crash 3 2 0 -> ok", "crash 3 1 0 -> ok", "buy 1 1 1 -> ok 1 1", "buy 1 1 1 -> "+down, "crash 3 3 30000 -> ok", "restart 3 -> ok")
	r.all("buy 1 1 1 -> "+down, "restart 3 -> ok", "buy 1 2 2 -> ok 2 2", "buy 1 3 3 -> ok 3 3", "buy 1 4 4 -> "+down, "restart 3 -> ok", "buy 1 5 5 -> ok 5 4")
}

// TestRestartP26_11: a node that is up loses nothing that was answered; one that is down comes up; both are told.
func TestRestartP26_11(t *testing.T) {
	r := busy(t)
	for number := range nodesOf(config) {
		was := lookAt(config, r.f)
		restart := fmt.Sprintf("restart %d", number)
		for range 3 {
			r.step(restart, "ok", restart)
			if !sameLook(lookAt(config, r.f), was) {
				t.Errorf("P26.15: %s has changed the fleet", restart)
			}
		}
		r.fell(number).step(restart, "ok", restart)
		if !sameLook(lookAt(config, r.f), was) {
			t.Errorf("P26.15: %s behind a crash of which nothing was kept has changed the fleet", restart)
		}
	}
	// Crashes that wait are forgotten by none.
	r.all("crash 3 1 0 -> ok", "restart 3 -> ok", "buy 1 1 1 -> "+down)
}

// TestRestartDownP26_11: the flash goes down while the node is opened: the node is down, and stays so till it is restarted once more.
func TestRestartDownP26_11(t *testing.T) {
	for number := range nodesOf(config) {
		for after := 1; after <= 3; after++ {
			for _, keep := range []int{0, 1, 30, 200, 20000} {
				r := busy(t)
				was := lookAt(config, r.f)
				restart, gone := fmt.Sprintf("restart %d", number), fmt.Sprintf("down %d", number)
				// A record that is cut off is a tail, which is left behind by writing the journal anew: an Append and an Erase.
				r.torn(number, 3).all(fmt.Sprintf("crash %d %d %d -> ok", number, after, keep))
				if after <= 2 {
					r.step(restart, down, gone)
					if r.f.Up()[number] {
						t.Fatalf("P26.11: %s went down, and the node is up", restart)
					}
				}
				r.step(restart, "ok", restart)
				if now := lookAt(config, r.f); !slices.EqualFunc(now.kept, was.kept, sameKept) || !slices.Equal(now.up, was.up) {
					t.Errorf("P26.15: node %d, cut off at write %d behind %d bytes of its opening, keeps %+v", number, after, keep, now.kept[number])
				}
			}
		}
	}
}

// TestRestartUpDownP26_11: a node that is up has an older journal in its other bank, which is erased when it is opened; it goes down under that.
func TestRestartUpDownP26_11(t *testing.T) {
	for _, keep := range []int{0, 1, 40, 20000} {
		r := begin(t, small)
		for files := r.f.Files()[3]; len(files.First) == 0 || len(files.Second) == 0; files = r.f.Files()[3] {
			if r.do("buy 1 1 1")[:2] != "ok" {
				t.Fatal("the journal was not written anew")
			}
		}
		was := lookAt(small, r.f)
		r.all(fmt.Sprintf("crash 3 1 %d -> ok", keep))
		r.step("restart 3", down, "down 3")
		r.still("buy 1 1 1", down)
		if _, up := r.f.Wallet(1); up {
			t.Error("P26.11: a wallet that went down while it was restarted is up")
		}
		r.step("restart 3", "ok", "restart 3")
		if got, _ := r.f.Wallet(1); !sameWallet(got, was.kept[3].wallet) {
			t.Errorf("P26.15: behind %d bytes the wallet keeps %+v", keep, got)
		}
	}
}

// TestRestartWornP26_11: a node that cannot be opened is down, and is told to be down at each try.
func TestRestartWornP26_11(t *testing.T) {
	for number := range nodesOf(config) {
		files := begin(t, config).f.Files()
		files[number] = api.Files{First: headed(math.MaxInt64, snapshotOf(t, config, number))}
		r := resume(t, config, files)
		restart, gone := fmt.Sprintf("restart %d", number), fmt.Sprintf("down %d", number)
		r.step(restart, "ok", restart)
		r.torn(number, 3)
		want := "error 3"
		if number == 1 || number == 2 {
			want = "error 193"
		}
		for range 3 {
			r.step(restart, want, gone)
			if up := r.f.Up(); up[number] || len(up) != nodesOf(config) {
				t.Fatalf("P26.11: up are %v", up)
			}
			r.still(writing(config, number), down)
		}
	}
}

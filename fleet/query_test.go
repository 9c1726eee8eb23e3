package fleet_test

import (
	"fmt"
	"math"
	"testing"

	"farebox/api"
	"farebox/ring"
	"farebox/script"
	"farebox/terms"
)

// TestHeadP26_12: the log's size; the head itself is told to whoever looks, and lies in no bag.
func TestHeadP26_12(t *testing.T) {
	r := begin(t, config)
	keys, _ := ring.Make(config)
	for _, x := range []struct {
		line string
		size int
	}{{"state", 0}, {"buy 1 3 100", 0}, {"deliver 1", 1}, {"freeze 1", 1}, {"revoke 1", 2}, {"floor 2", 3}} {
		r.do(x.line)
		was := lookAt(config, r.f)
		r.step("head", fmt.Sprintf("ok %d", x.size), "out 0 head")
		if !sameLook(lookAt(config, r.f), was) {
			t.Errorf("P26.12: behind %s head has changed the fleet", x.line)
		}
		trace := r.f.Trace()
		h, err := terms.DecodeHead(trace[len(trace)-1].Body)
		if err != api.OK || h.Size != x.size || !ring.CheckHead(keys, h) {
			t.Errorf("P26.12: behind %s the head is %+v, %d", x.line, h, err)
		}
	}
	r.fell(0).still("head", down)
}

// TestRowP26_12: a gate's row, with each of its flags; none, where there is none.
func TestRowP26_12(t *testing.T) {
	r := begin(t, config)
	r.do(injectLine(2, theirs.entry(config, 3, 4)))
	r.do(injectLine(2, theirs.flagged(config, 4, 2, false)))
	r.do(injectLine(2, theirs.revocation(config, 5)))
	r.do(injectLine(2, theirs.flagged(config, 65535, 5, true)))
	for _, x := range []struct{ line, want string }{
		{"row 2 3", "ok 4 0 0"}, {"row 2 4", "ok 2 1 0"}, {"row 2 5", "ok 0 0 1"}, {"row 2 65535", "ok 5 1 1"},
		{"row 2 0", "error 230"}, {"row 2 -3", "error 230"}, {"row 2 6", "error 230"}, {"row 2 999999999999999999", "error 230"},
		{"row 1 3", "error 230"}, {"row 0 3", "error 260"}, {"row 3 3", "error 260"},
	} {
		r.still(x.line, x.want)
	}
	r.fell(2)
	r.still("row 2 3", down)
	r.still("row 2 0", down)
}

// TestCarnetP26_12: a carnet in each of its statuses.
func TestCarnetP26_12(t *testing.T) {
	r := sold(t, config)
	ask := func(serial int, want string) {
		t.Helper()
		r.still(fmt.Sprintf("carnet %d", serial), want)
	}
	ask(1, "ok 1 3 100 0 0 0")
	r.all("ride 1 1 2 -> ok 1 1 3", "deliver 3 -> ok 1 1", "freeze 1 -> ok 1 4 5")
	ask(1, "ok 2 3 100 0 0 0")
	r.all("deliver 5 -> ok 1 1 6", "deliver 6 -> ok 1 1 1")
	ask(1, "ok 2 3 100 1 1 0")
	r.all("deliver 4 -> ok 1 0 7", "deliver 7 -> ok 1 1 0")
	ask(1, "ok 2 3 100 1 2 0")
	r.all("pay 1 -> ok 2 200 8")
	ask(1, "ok 3 3 100 1 2 200")
	r.all(injectLine(0, theirs.order())+" -> ok 2 0", "freeze 2 -> ok 2 9 10", injectLine(0, theirs.ack(config, 2, 2, 4))+" -> ok 2 4 1", "revoke 2 -> ok 2 11 12")
	ask(2, "ok 4 5 0 4 1 0")
	for _, serial := range []int{0, -1, 3, 65536, 999999999999999999} {
		ask(serial, "error 230")
	}
	r.fell(0)
	ask(1, down)
	ask(0, down)
}

// TestPurseP26_12: a purse whose certificate has come; none, where it has not.
func TestPurseP26_12(t *testing.T) {
	r := begin(t, config).all("buy 1 3 100 -> ok 1 1", "buy 1 2 50 -> ok 2 2", "deliver 2 -> ok 1 3", "deliver 3 -> ok 1 2")
	r.still("purse 1 1", "ok 2 0 0")
	r.still("purse 1 2", "error 180")
	r.all("ride 1 1 1 -> ok 1 1 4")
	r.still("purse 1 1", "ok 2 1 0")
	receipt := told(terms.EncodeReceipt, ring.SealReceipt(seed(config, 0), api.Receipt{Serial: 1, Rides: 2, Amount: 100}))
	r.all(injectLine(3, receipt) + " -> ok 2 100")
	r.still("purse 1 1", "ok 2 1 2")
	for _, x := range []struct{ line, want string }{
		{"purse 1 0", "error 180"}, {"purse 1 -1", "error 180"}, {"purse 1 3", "error 180"}, {"purse 2 1", "error 180"}, {"purse 2 0", "error 180"},
		{"purse 0 1", "error 260"}, {"purse 3 1", "error 260"}, {"purse -1 0", "error 260"},
	} {
		r.still(x.line, x.want)
	}
	r.fell(3)
	r.still("purse 1 1", down)
	r.still("purse 1 0", down)
	r.still("purse 2 1", "error 180")
}

// TestMoneyP26_12: cash, unearned and earned, each by its own side.
func TestMoneyP26_12(t *testing.T) {
	r := begin(t, config)
	for _, x := range []struct{ line, want string }{
		{"state", "ok 0 0 0"}, {"buy 1 4096 1000000000", "ok 0 0 0"}, {"deliver 1", "ok 4096000000000 4096000000000 0"},
		{"buy 2 2 7", "ok 4096000000000 4096000000000 0"}, {"deliver 3", "ok 4096000000014 4096000000014 0"}, {"revoke 2", "ok 4096000000014 4096000000000 14"},
		{"freeze 1", "ok 4096000000014 4096000000000 14"}, {"deliver 7", "ok 4096000000014 4096000000000 14"}, {"deliver 8", "ok 4096000000014 4096000000000 14"},
		{"deliver 9", "ok 4096000000014 4096000000000 14"}, {"deliver 10", "ok 4096000000014 4096000000000 14"}, {"pay 1", "ok 14 0 14"},
	} {
		if got := r.do(x.line); got[:2] != "ok" {
			t.Fatalf("%s = %s", x.line, got)
		}
		r.still("money", x.want)
	}
	r.fell(0).still("money", down)
}

// TestBagP26_12: how many messages there are, and the room.
func TestBagP26_12(t *testing.T) {
	r := begin(t, config)
	r.still("bag", "ok 0 4096")
	r.do("buy 1 1 1")
	r.still("bag", "ok 1 4095")
	r.do("double 1")
	r.still("bag", "ok 2 4094")
	r.fill(1, 1).still("bag", "ok 4095 1")
	r.fill(1, 0).still("bag", "ok 4096 0")
	r.do("drop 1")
	r.still("bag", "ok 4095 1")
	for number := range nodesOf(config) {
		r.fell(number)
	}
	r.still("bag", "ok 4095 1")
}

// TestStateP26_12: of each node whether it is up.
func TestStateP26_12(t *testing.T) {
	for _, c := range edgeConfigs {
		r := begin(t, c)
		want := "ok"
		for range nodesOf(c) {
			want += " 1"
		}
		r.still("state", want)
		for _, number := range []int{nodesOf(c) - 1, 0, 1} {
			at := len("ok ") + 2*number
			r.fell(number).still("state", want[:at]+"0"+want[at+1:])
			want = want[:at] + "0" + want[at+1:]
		}
		r.all("restart 0 -> ok")
		r.still("state", want[:len("ok ")]+"1"+want[len("ok ")+1:])
	}
}

// TestQueriesStillP26_12: no query changes the fleet, whatever it asks for, and none but head is told.
func TestQueriesStillP26_12(t *testing.T) {
	r := busy(t).fell(2)
	for kind := api.OpHead; kind <= api.OpState; kind++ {
		for _, number := range someNumbers {
			for _, count := range []int{math.MinInt, -1, 0, 1, 2, 3, math.MaxInt} {
				was, events := lookAt(config, r.f), len(r.f.Trace())
				o := api.Op{Kind: kind, Node: number, Other: number, Count: count, Price: int64(count), Body: []byte{1}}
				first, heads := r.f.Do(o), len(r.f.Trace())-events
				if again := r.f.Do(o); !sameReply(first, again) {
					t.Errorf("P26.12: %+v = %s, and then %s", o, script.Show(first), script.Show(again))
				}
				if kind == api.OpHead {
					if heads != 1 || first.Err != api.OK {
						t.Errorf("P26.12: %+v tells %d events", o, heads)
					}
					events = len(r.f.Trace())
				}
				r.wantStill(fmt.Sprintf("%+v", o), was, events)
			}
		}
	}
}

// TestKindsP26_13: kinds below 1 and above 21.
func TestKindsP26_13(t *testing.T) {
	r := busy(t)
	for _, kind := range []int{math.MinInt, -21, -2, -1, 0, 22, 23, 256 + 1, 1<<32 + 1, math.MaxInt} {
		for _, number := range someNumbers {
			r.wantRefused(api.Op{Kind: kind, Node: number, Other: 1, Count: 1, Body: []byte{1}}, api.ErrKind)
		}
	}
	for number := range nodesOf(config) {
		r.fell(number)
	}
	r.wantRefused(api.Op{}, api.ErrKind)
}

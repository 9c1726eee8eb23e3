package fleet_test

import (
	"fmt"
	"slices"
	"testing"

	"farebox/api"
	"farebox/script"
	"farebox/terms"
)

// small is a configuration whose flashes hold a few records, so that journals are written anew all the time.
var small = api.Config{Gates: 2, Wallets: 1, Rows: 4, Flash: 1300, Serials: 4, Secret: api.Hash{26, 15}}

// stepped is an operation of a life, with what stands on the flashes ahead of it.
type stepped struct {
	o     api.Op
	m     api.Message // that a delivery hands on
	files []api.Files
}

// smallLife is a life in which every kind of operation and message comes; all messages are delivered at once.
func smallLife(t *testing.T) []stepped {
	t.Helper()
	r := begin(t, small)
	var list []stepped
	do := func(o api.Op, m api.Message) {
		t.Helper()
		list = append(list, stepped{o, m, r.f.Files()})
		if reply := r.f.Do(o); reply.Err != api.OK {
			t.Fatalf("%+v = %s", o, script.Show(reply))
		}
	}
	for _, line := range []string{
		"buy 1 5 100", "ride 1 1 1", "ride 1 1 2", "ride 1 1 1", "gossip 1 2", "buy 1 2 7", "ride 1 2 2", "sync 2 1", "buy 1 2 1", "ride 1 3 1", "freeze 1", "freeze 1", "pay 1",
		"gossip 2 1", "revoke 2", "sync 1 2", "ride 1 3 2", "sync 2 1", "buy 1 1 1", "ride 1 4 1", "floor 3", "floor 3", "gossip 1 2", "floor 4", "gossip 2 1", "revoke 4",
	} {
		do(op(t, line), api.Message{})
		for bag := r.f.Bag(); len(bag) > 0; bag = r.f.Bag() {
			do(api.Op{Kind: api.OpDeliver, Count: bag[0].ID}, bag[0])
		}
	}
	return list
}

// keeps are numbers of bytes that a crash leaves: none, within a mark, a header, by the ends of records, within a snapshot; all.
var keeps = []int{0, 1, 2, 5, 6, 9, 10, 11, 15, 21, 22, 23, 60, 61, 100, 123, 130, 131, 132, 163, 164, 165, 170, 228, 229, 230, 400, 700, 20000}

// cut is a crash at a write of an operation, and what the node may keep behind it.
type cut struct {
	t           *testing.T
	begin       func() *rig // the fleet ahead of the operation
	o           api.Op
	body        []byte // what the node is handed, if it is
	number      int
	before      kept
	whole       kept
	after, keep int
	met         map[string]int
}

// name tells which crash it is.
func (k cut) name() string {
	line, _ := script.Format(k.o)
	return fmt.Sprintf("%.40s at node %d, cut off at write %d behind %d bytes", line, k.number, k.after, k.keep)
}

// cutLife cuts off each operation of a life by itself, and tells what was met.
func cutLife(t *testing.T, keeps []int, cutOf func(t *testing.T, list []stepped, i int) cut) map[string]int {
	t.Helper()
	list := smallLife(t)
	met := make([]map[string]int, len(list))
	t.Run("steps", func(t *testing.T) {
		for i, x := range list {
			met[i] = map[string]int{}
			number := nodeOf(small, x.o, x.m)
			if number < 0 {
				continue
			}
			t.Run(fmt.Sprint(i), func(t *testing.T) {
				t.Parallel()
				k := cutOf(t, list, i)
				k.t, k.number, k.met = t, number, met[i]
				k.before = behind(t, small, number, x.files[number], api.Op{}, api.Message{})
				k.whole = behind(t, small, number, x.files[number], k.o, x.m)
				k.tryAll(keeps)
			})
		}
	})
	all := map[string]int{}
	for _, m := range met {
		for what, n := range m {
			all[what] += n
		}
	}
	return all
}

// TestCutP26_15: every operation, cut off at each of its writes, behind no bytes, some, or all; the restarts are cut off too. The node is as ahead of the operation, or as behind it, and all other nodes are as they were.
func TestCutP26_15(t *testing.T) {
	// Behind Resume no message is on its way: what is to be delivered is injected.
	met := cutLife(t, keeps, func(t *testing.T, list []stepped, i int) cut {
		x := list[i]
		k := cut{begin: func() *rig { return resume(t, small, x.files) }, o: x.o, body: x.m.Body}
		if x.o.Kind == api.OpDeliver {
			k.o = api.Op{Kind: api.OpInject, Node: x.m.To, Body: x.m.Body}
		}
		return k
	})
	for _, what := range []string{"nothing of it", "whole", "write 1", "write 2", "node 0", "node 1", "node 2", "node 3", "burnt", "cut off again"} {
		if met[what] < 10 {
			t.Errorf("crashes that were %s: %v", what, met)
		}
	}
}

// TestCutRunningP26_15: the same in fleets that have run from New on, whose other banks hold older journals.
func TestCutRunningP26_15(t *testing.T) {
	met := cutLife(t, []int{0, 30, 500, 20000}, func(t *testing.T, list []stepped, i int) cut {
		return cut{o: list[i].o, body: list[i].m.Body, begin: func() *rig {
			r := begin(t, small)
			for _, x := range list[:i] {
				r.f.Do(x.o)
			}
			return r
		}}
	})
	for _, what := range []string{"nothing of it", "whole", "write 1", "write 2", "write 3", "burnt", "cut off again"} {
		if met[what] < 4 {
			t.Errorf("crashes that were %s: %v", what, met)
		}
	}
}

// tryAll cuts the operation off at each of its writes.
func (k cut) tryAll(keeps []int) {
	for k.after = 1; k.after <= 4; k.after++ {
		for _, k.keep = range keeps {
			if !k.try() {
				return
			}
			k.met[fmt.Sprintf("write %d", k.after)]++
			k.met[fmt.Sprintf("node %d", k.number)]++
		}
	}
	k.t.Errorf("%s: it writes on and on", k.name())
}

// try is one crash; false, if the operation has not so many writes.
func (k cut) try() bool {
	r := k.begin()
	others, events := lookAt(small, r.f), len(r.f.Trace())
	r.all(fmt.Sprintf("crash %d %d %d -> ok", k.number, k.after, k.keep))
	reply := r.f.Do(k.o)
	if reply.Err == api.OK {
		if got, _ := keptBy(small, r.f, k.number); !sameKept(got, k.whole) {
			k.t.Errorf("%s is done, and leaves %+v, want %+v", k.name(), got, k.whole)
		}
		return false
	}
	bag := slices.DeleteFunc(others.bag, func(m api.Message) bool { return k.o.Kind == api.OpDeliver && m.ID == k.o.Count })
	if !sameReply(reply, api.Reply{Err: api.ErrDown}) || !slices.EqualFunc(r.f.Bag(), bag, sameMessage) {
		k.t.Fatalf("P26.5: %s = %s, the bag %v, want %v", k.name(), script.Show(reply), r.f.Bag(), bag)
	}
	want, _ := keptBy(small, resume(k.t, small, r.f.Files()).f, k.number)
	done := sameKept(want, k.whole)
	k.met[map[bool]string{true: "whole", false: "nothing of it"}[done]]++
	if !done && !sameKept(want, k.before) {
		k.t.Errorf("P26.15: %s leaves %+v, neither %+v nor %+v", k.name(), want, k.before, k.whole)
	}
	k.recover(r)
	others.kept[k.number] = want
	for number := range nodesOf(small) {
		if got, up := keptBy(small, r.f, number); !up || !sameKept(got, others.kept[number]) {
			k.t.Errorf("P26.15: %s: node %d keeps %+v, want %+v", k.name(), number, got, others.kept[number])
		}
	}
	if done && !sameKept(k.before, k.whole) {
		k.burnt(r, events)
	}
	return true
}

// recover restarts the node, and cuts that off too, once or twice.
func (k cut) recover(r *rig) {
	restart := fmt.Sprintf("restart %d", k.number)
	for n := range (k.after + k.keep) % 3 {
		r.all(fmt.Sprintf("crash %d %d %d -> ok", k.number, 1+(n+k.keep)%2, (k.keep*7+n*31)%900))
	}
	for range 3 {
		got := r.do(restart)
		if got == "ok" {
			return
		}
		if got != down || r.f.Up()[k.number] {
			k.t.Fatalf("P26.11: %s, then %s = %s", k.name(), restart, got)
		}
		k.met["cut off again"]++
	}
	k.t.Errorf("%s: the node does not come up", k.name())
}

// burnt asks, of a ride that is there and was not answered, that the gate has not accepted it, and never will.
func (k cut) burnt(r *rig, events int) {
	ticket, err := terms.DecodeTicket(k.body)
	if err != api.OK {
		return
	}
	k.met["burnt"]++
	r.all(fmt.Sprintf("row %d %d -> ok %d 0 0", k.number, ticket.Cert.Serial, ticket.Index), injectLine(k.number, k.body)+" -> error 190")
	told := r.f.Trace()[events:]
	if slices.ContainsFunc(told, func(e api.Event) bool { return e.Kind == api.EventAccept || e.Kind == api.EventStore }) {
		k.t.Errorf("P26.15: %s: the trace is %q", k.name(), tellEvents(told))
	}
}

// TestCutDeliveryP26_15: deliveries from the bag, cut off, with the issuer told whom an order came from; the message is gone, and a double of it brings the node to where it would have been.
func TestCutDeliveryP26_15(t *testing.T) {
	for keep := range 70 {
		r := begin(t, small).all("buy 1 3 100 -> ok 1 1", "double 1 -> ok 2", fmt.Sprintf("crash 0 1 %d -> ok", keep))
		r.all("deliver 1 -> "+down, "deliver 1 -> error 240", "deliver 2 -> "+down, "restart 0 -> ok")
		s, _ := r.f.Issuer()
		if len(s.Carnets) > 1 || len(s.Carnets) == 1 && s.Carnets[0].Owner != 3 {
			t.Errorf("P26.15: behind %d bytes the carnets are %+v", keep, s.Carnets)
		}
		r.all("deliver 2 -> ok 1 3", "carnet 1 -> ok 1 3 100 0 0 0", "deliver 3 -> ok 1 1", "ride 1 1 1 -> ok 1 1 4", "money -> ok 300 300 0")
	}
}

package fleet_test

import (
	"fmt"
	"math"
	"slices"
	"testing"

	"farebox/api"
	"farebox/flash"
	"farebox/fleet"
)

// example are the lines of the document's example, with their answers.
var example = []string{
	"buy 1 3 100 -> ok 1 1", "deliver 1 -> ok 1 2", "deliver 2 -> ok 1 1", "ride 1 1 1 -> ok 1 1 3", "double 3 -> ok 4", "deliver 3 -> ok 1 1",
	"deliver 4 -> error 190", "ride 1 1 2 -> ok 1 2 5", "deliver 5 -> ok 1 2", "row 1 1 -> ok 1 0 0", "gossip 2 1 -> ok 1 6", "deliver 6 -> ok 1 2 1",
	"freeze 1 -> ok 1 7 8", "pay 1 -> error 211", "deliver 7 -> ok 1 2 9", "crash 2 1 5 -> ok", "deliver 8 -> error 121", "state -> ok 1 1 0 1",
	"restart 2 -> ok", "freeze 1 -> ok 1 10 11", "deliver 11 -> ok 1 2 12", "deliver 9 -> ok 1 2 1", "deliver 12 -> ok 1 2 0", "pay 1 -> ok 1 100 13",
	"deliver 13 -> ok 1 100", "ride 1 1 1 -> error 181", "carnet 1 -> ok 3 3 100 2 2 100", "money -> ok 200 0 200", "bag -> ok 1 4095",
}

// exampleConfig is that of the example.
var exampleConfig = api.Config{Gates: 2, Wallets: 1, Rows: 8, Flash: 20000, Serials: 10, Secret: api.Hash{7}}

// TestExampleP26: the document's, with all that it tells on its way.
func TestExampleP26(t *testing.T) {
	r := begin(t, exampleConfig).all(example...)
	want := []string{
		"out 3 order", "issue 0 serial 1 index 3 amount 100", "out 0 cert", "reveal 3 serial 1 index 1", "out 3 ticket",
		"accept 1 serial 1 index 1", "store 1 serial 1 index 1", "reveal 3 serial 1 index 2", "out 3 ticket", "accept 2 serial 1 index 2", "store 2 serial 1 index 2",
		"out 2 entry", "store 1 serial 1 index 2", "out 0 freeze", "out 0 freeze", "store 1 serial 1 index 2", "retire 1 serial 1", "out 1 ack", "down 2", "restart 2",
		"out 0 freeze", "out 0 freeze", "store 2 serial 1 index 2", "retire 2 serial 1", "out 2 ack", "pay 0 serial 1 index 1 amount 100", "out 0 receipt",
	}
	if got := tellEvents(r.f.Trace()); !slices.Equal(got, want) {
		t.Errorf("the trace is\n%q, want\n%q", got, want)
	}
}

// refusedConfigs are those that may not be, by each reason.
func refusedConfigs() []api.Config {
	var list []api.Config
	for _, change := range []func(c *api.Config, n int){
		func(c *api.Config, n int) { c.Gates = n },
		func(c *api.Config, n int) { c.Wallets = n },
		func(c *api.Config, n int) { c.Rows = n },
		func(c *api.Config, n int) { c.Flash = n },
		func(c *api.Config, n int) { c.Serials = n },
	} {
		for _, n := range []int{0, -1, math.MinInt, math.MaxInt, 1048577} {
			c := config
			change(&c, n)
			list = append(list, c)
		}
	}
	for _, x := range [][5]int{{17, 1, 1, 512, 1}, {1, 9, 1, 512, 1}, {1, 1, 257, 512, 1}, {1, 1, 1, 511, 1}, {1, 1, 1, 512, 65536}} {
		list = append(list, api.Config{Gates: x[0], Wallets: x[1], Rows: x[2], Flash: x[3], Serials: x[4]})
	}
	return append(list, api.Config{})
}

// TestRefusedConfigP26_1: and so P26.2 and P26.14.
func TestRefusedConfigP26_1(t *testing.T) {
	for _, c := range refusedConfigs() {
		if f, err := fleet.New(c); f != nil || err != api.ErrConfig {
			t.Errorf("P26.1: New(%+v) = %v, %d", c, f, err)
		}
		for _, files := range [][]api.Files{nil, make([]api.Files, 2), make([]api.Files, nodesOf(config))} {
			if f, err := fleet.Resume(c, files); f != nil || err != api.ErrConfig {
				t.Errorf("P26.2: Resume(%+v, %d files) = %v, %d", c, len(files), f, err)
			}
		}
		for _, text := range []string{"", "state\n", "what\nbuy 1 1 1"} {
			if l, err := fleet.Play(c, []byte(text)); len(l) != 0 || err != api.ErrConfig {
				t.Errorf("P26.14: Play(%+v, %q) = %v, %d", c, text, l, err)
			}
			if got := fleet.Text(c, []byte(text)); got != "" {
				t.Errorf("P26.14: Text(%+v, %q) = %q", c, text, got)
			}
		}
	}
}

// TestNoFleetP26: where New has refused, no call of what it answered panics.
func TestNoFleetP26(t *testing.T) {
	f, _ := fleet.New(api.Config{})
	for _, f := range []*fleet.Fleet{f, {}} {
		for kind := -1; kind <= 22; kind++ {
			for number := -1; number <= 1; number++ {
				f.Do(api.Op{Kind: kind, Node: number, Other: 1, Count: 1})
			}
		}
		_, issuerUp := f.Issuer()
		_, gateUp := f.Gate(1)
		_, walletUp := f.Wallet(1)
		if issuerUp || gateUp || walletUp || len(f.Trace())+len(f.Files())+len(f.Up())+len(f.Bag()) != 0 {
			t.Errorf("a fleet that there is not tells of something")
		}
	}
}

// edgeConfigs are at the ends of what may be.
var edgeConfigs = []api.Config{
	config,
	{Gates: 1, Wallets: 1, Rows: 1, Flash: 512, Serials: 1},
	{Gates: 16, Wallets: 8, Rows: 256, Flash: 512, Serials: 65535, Secret: api.Hash{255}},
	{Gates: 16, Wallets: 8, Rows: 256, Flash: 1048576, Serials: 65535},
}

// TestNewP26_1: all nodes are up, each on its own flash, as its own Open leaves it.
func TestNewP26_1(t *testing.T) {
	for _, c := range edgeConfigs {
		f := begin(t, c).f
		if len(f.Bag()) != 0 || len(f.Trace()) != 0 {
			t.Errorf("P26.1: New: the bag %v, the trace %v", f.Bag(), f.Trace())
		}
		files, up := f.Files(), f.Up()
		if len(files) != nodesOf(c) || !slices.Equal(up, slices.Repeat([]bool{true}, nodesOf(c))) {
			t.Fatalf("P26.1: New: %d files, up are %v", len(files), up)
		}
		for number := range nodesOf(c) {
			if k, is := keptBy(c, f, number); !is || !sameKept(k, kept{}) {
				t.Errorf("P26.1: node %d keeps %+v, %v", number, k, is)
			}
			blank := flash.New(c.Flash)
			openAlone(t, c, number, blank)
			if want := filesOf(blank); !sameFiles(files[number], want) || len(want.First) == 0 {
				t.Errorf("P26.3: node %d is on %x, want %x", number, files[number], want)
			}
		}
	}
}

func filesOf(f *flash.Flash) api.Files {
	first, second := f.Files()
	return api.Files{First: first, Second: second}
}

// busyLines bring a fleet so far that every node keeps something, and messages are on their way.
var busyLines = []string{
	"buy 1 3 100 -> ok 1 1", "deliver 1 -> ok 1 2", "deliver 2 -> ok 1 1", "buy 2 2 7 -> ok 1 3", "deliver 3 -> ok 2 4", "deliver 4 -> ok 2 1", "buy 2 5 1 -> ok 2 5",
	"ride 1 1 1 -> ok 1 1 6", "deliver 6 -> ok 1 1", "ride 2 2 2 -> ok 2 1 7", "deliver 7 -> ok 2 1", "sync 1 2 -> ok 1 8", "freeze 2 -> ok 2 9 10",
}

// busy is such a fleet.
func busy(t *testing.T) *rig {
	t.Helper()
	return begin(t, config).all(busyLines...)
}

// TestStatesP26_3: what the fleet tells of its nodes is what stands on their flashes, and of a node that is down, or of which there is none, nothing.
func TestStatesP26_3(t *testing.T) {
	r := busy(t)
	for number, files := range r.f.Files() {
		want := openAlone(t, r.c, number, flash.Load(r.c.Flash, files.First, files.Second)).kept()
		if k, up := keptBy(r.c, r.f, number); !up || !sameKept(k, want) || sameKept(k, kept{}) {
			t.Errorf("P26.3: node %d keeps %+v, %v, want %+v", number, k, up, want)
		}
	}
	for _, n := range []int{math.MinInt, -1, 0, 3, 4, 5, math.MaxInt} {
		if s, up := r.f.Gate(n); up || !sameGate(s, api.GateState{}) {
			t.Errorf("P26.3: gate %d is %+v, %v", n, s, up)
		}
		if s, up := r.f.Wallet(n); up || !sameWallet(s, api.WalletState{}) {
			t.Errorf("P26.3: wallet %d is %+v, %v", n, s, up)
		}
	}
	files, want := r.f.Files(), r.f.Up()
	for number := range nodesOf(r.c) {
		r.fell(number)
		want[number] = false
		if got := r.f.Up(); !slices.Equal(got, want) {
			t.Errorf("P26.3: up are %v, want %v", got, want)
		}
		if k, up := keptBy(r.c, r.f, number); up || !sameKept(k, kept{}) {
			t.Errorf("P26.3: node %d, which is down, keeps %+v, %v", number, k, up)
		}
		if now := r.f.Files(); !slices.EqualFunc(now, files, sameFiles) {
			t.Errorf("P26.3: node %d is down, and its files have changed", number)
		}
	}
}

// TestBagAndTraceP26_3: all that lies there, all that happened, in order.
func TestBagAndTraceP26_3(t *testing.T) {
	r := sold(t, config)
	r.all("buy 2 1 1 -> ok 1 3", "double 3 -> ok 4", "freeze 1 -> ok 1 5 6", "drop 3 -> ok")
	bag := r.f.Bag()
	var got []string
	for _, m := range bag {
		got = append(got, fmt.Sprint(m.ID, m.From, m.To))
	}
	if want := []string{"4 4 0", "5 0 1", "6 0 2"}; !slices.Equal(got, want) {
		t.Errorf("P26.3: the bag is %q, want %q", got, want)
	}
	trace := r.f.Trace()
	outs := []string{"out 3 order", "issue 0 serial 1 index 3 amount 100", "out 0 cert", "out 4 order", "out 0 freeze", "out 0 freeze"}
	if got := tellEvents(trace); !slices.Equal(got, outs) {
		t.Fatalf("P26.3: the trace is %q, want %q", got, outs)
	}
	for i, m := range bag {
		if string(m.Body) != string(trace[3+i].Body) {
			t.Errorf("P26.4: message %d is %x, what was told %x", m.ID, m.Body, trace[3+i].Body)
		}
	}
}

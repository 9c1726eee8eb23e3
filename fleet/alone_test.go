package fleet_test

import (
	"sync"
	"testing"

	"farebox/api"
	"farebox/flash"
	"farebox/gate"
	"farebox/issuer"
	"farebox/ring"
	"farebox/wallet"
)

// keysOf is the ring of a configuration, which takes a while to make.
var keysOf = func() func(c api.Config) api.Ring {
	var lock sync.Mutex
	made := map[api.Config]api.Ring{}
	return func(c api.Config) api.Ring {
		lock.Lock()
		defer lock.Unlock()
		keys, there := made[c]
		if !there {
			keys, _ = ring.Make(c)
			made[c] = keys
		}
		return keys
	}
}()

// alone is a node without a fleet.
type alone struct {
	issuer *issuer.Issuer
	gate   *gate.Gate
	wallet *wallet.Wallet
}

// openAlone opens a node without a fleet.
func openAlone(t *testing.T, c api.Config, number int, f *flash.Flash) alone {
	t.Helper()
	x, err := tryAlone(c, number, f)
	if err != api.OK {
		t.Fatalf("node %d alone: %d", number, err)
	}
	return x
}

// tryAlone is the same of a flash on which the node may not open.
func tryAlone(c api.Config, number int, f *flash.Flash) (x alone, err api.Errno) {
	keys := keysOf(c)
	switch {
	case number == 0:
		x.issuer, err = issuer.Open(c, keys, f)
	case number <= c.Gates:
		x.gate, err = gate.Open(c, keys, number, f)
	default:
		x.wallet, err = wallet.Open(c, keys, number-c.Gates, f)
	}
	return x, err
}

// kept is what it keeps.
func (x alone) kept() (k kept) {
	switch {
	case x.issuer != nil:
		k.issuer = x.issuer.State()
	case x.gate != nil:
		k.gate = x.gate.State()
	case x.wallet != nil:
		k.wallet = x.wallet.State()
	}
	return k
}

// take is the node's Take.
func (x alone) take(from int, body []byte) api.Answer {
	switch {
	case x.issuer != nil:
		return x.issuer.Take(from, body)
	case x.gate != nil:
		return x.gate.Take(body)
	}
	return x.wallet.Take(body)
}

// does is what an operation that is for this node asks of it; m is the message that a delivery hands on.
func (x alone) does(o api.Op, m api.Message) api.Answer {
	switch o.Kind {
	case api.OpBuy:
		return x.wallet.Buy(o.Count, o.Price)
	case api.OpRide:
		return x.wallet.Ride(o.Count, o.Other)
	case api.OpFreeze:
		return x.issuer.Freeze(o.Count)
	case api.OpPay:
		return x.issuer.Pay(o.Count)
	case api.OpRevoke:
		return x.issuer.Revoke(o.Count)
	case api.OpFloor:
		return x.issuer.Raise(o.Count)
	case api.OpDeliver:
		return x.take(m.From, m.Body)
	case api.OpInject:
		return x.take(-1, o.Body)
	}
	return api.Answer{}
}

// behind is what a node keeps behind an operation that nothing cuts off, if it is begun on these files.
func behind(t *testing.T, c api.Config, number int, files api.Files, o api.Op, m api.Message) kept {
	t.Helper()
	x := openAlone(t, c, number, flash.Load(c.Flash, files.First, files.Second))
	x.does(o, m)
	return x.kept()
}

// nodeOf is the node that an operation may write at; -1, if there is none.
func nodeOf(c api.Config, o api.Op, m api.Message) int {
	switch o.Kind {
	case api.OpBuy, api.OpRide:
		return c.Gates + o.Node
	case api.OpFreeze, api.OpPay, api.OpRevoke, api.OpFloor:
		return 0
	case api.OpDeliver:
		return m.To
	case api.OpInject, api.OpRestart:
		return o.Node
	}
	return -1
}

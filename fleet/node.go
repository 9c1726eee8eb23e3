package fleet

import (
	"farebox/api"
	"farebox/flash"
	"farebox/gate"
	"farebox/issuer"
	"farebox/wallet"
)

// issuerNumber is the number of the issuer's node.
const issuerNumber = 0

// node is a node that runs, of whatever kind: what takes a message, and is told whom it comes from.
type node interface {
	take(from int, body []byte) api.Answer
}

type issuerNode struct{ *issuer.Issuer }

type gateNode struct{ *gate.Gate }

type walletNode struct{ *wallet.Wallet }

func (n issuerNode) take(from int, body []byte) api.Answer { return n.Take(from, body) }

// take does not tell a gate who brings a message: it goes by what is signed alone.
func (n gateNode) take(_ int, body []byte) api.Answer { return n.Take(body) }

// take does not tell a wallet either.
func (n walletNode) take(_ int, body []byte) api.Answer { return n.Take(body) }

// spot is a node's place: its flash, which stays, and the node that runs on it.
type spot struct {
	flash   *flash.Flash
	running node // nil: the node is down
}

// nodes is how many nodes a configuration has.
func nodes(c api.Config) int { return 1 + c.Gates + c.Wallets }

// has tells whether there is a node of that number.
func (f *Fleet) has(number int) bool { return number >= 0 && number < len(f.spots) }

func (f *Fleet) isUp(number int) bool { return f.running(number) != nil }

// running is the node of that number; nil, if it is down, or there is none.
func (f *Fleet) running(number int) node {
	if !f.has(number) {
		return nil
	}
	return f.spots[number].running
}

// walletNumber is the number of a wallet's node; a gate's is its own.
func (f *Fleet) walletNumber(wallet int) int { return f.config.Gates + wallet }

// issuer is the issuer; ErrDown, if it is down.
func (f *Fleet) issuer() (*issuer.Issuer, api.Errno) {
	switch n := f.running(issuerNumber).(type) {
	case issuerNode:
		return n.Issuer, api.OK
	}
	return nil, api.ErrDown
}

// gate is the gate of that number; ErrNode, if there is none, ErrDown, if it is down.
func (f *Fleet) gate(number int) (*gate.Gate, api.Errno) {
	if number < 1 || number > f.config.Gates {
		return nil, api.ErrNode
	}
	switch n := f.running(number).(type) {
	case gateNode:
		return n.Gate, api.OK
	}
	return nil, api.ErrDown
}

// wallet is the wallet of that number; ErrNode, if there is none, ErrDown, if it is down.
func (f *Fleet) wallet(number int) (*wallet.Wallet, api.Errno) {
	if number < 1 || number > f.config.Wallets {
		return nil, api.ErrNode
	}
	switch n := f.running(f.walletNumber(number)).(type) {
	case walletNode:
		return n.Wallet, api.OK
	}
	return nil, api.ErrDown
}

// open lets a node run, with what its flash tells.
func (f *Fleet) open(number int) api.Errno {
	s := &f.spots[number]
	switch {
	case number == issuerNumber:
		i, err := issuer.Open(f.config, f.keys, s.flash)
		if err != api.OK {
			return err
		}
		s.running = issuerNode{i}
	case number <= f.config.Gates:
		g, err := gate.Open(f.config, f.keys, number, s.flash)
		if err != api.OK {
			return err
		}
		s.running = gateNode{g}
	default:
		w, err := wallet.Open(f.config, f.keys, number-f.config.Gates, s.flash)
		if err != api.OK {
			return err
		}
		s.running = walletNode{w}
	}
	return api.OK
}

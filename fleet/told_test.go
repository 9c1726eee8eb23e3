package fleet_test

import (
	"fmt"
	"testing"

	"farebox/api"
	"farebox/ring"
	"farebox/terms"
)

func (x foreign) freeze(c api.Config, serial int) []byte {
	return told(terms.EncodeFreeze, ring.SealFreeze(seed(c, 0), api.Freeze{Cert: x.cert(c, serial)}))
}

func (x foreign) revocation(c api.Config, serial int) []byte {
	return told(terms.EncodeRevocation, ring.SealRevocation(seed(c, 0), api.Revocation{Cert: x.cert(c, serial)}))
}

// flagged is an entry that is frozen, and where that is asked revoked too.
func (x foreign) flagged(c api.Config, serial, index int, gone bool) []byte {
	cert := x.cert(c, serial)
	e := api.Entry{Cert: cert, Index: index, Value: x.value(index), Frozen: true, Freeze: ring.SealFreeze(seed(c, 0), api.Freeze{Cert: cert}).Sig}
	if gone {
		e.Revoked, e.Revoke = true, ring.SealRevocation(seed(c, 0), api.Revocation{Cert: cert}).Sig
	}
	return told(terms.EncodeEntry, e)
}

// given injects a body, and asks the reply and the events behind the injection's.
func (r *rig) given(number int, body []byte, want string, events ...string) {
	r.t.Helper()
	kind := "1 bytes"
	if domain, err := terms.Domain(body); err == api.OK {
		kind = bodyNames[domain]
	}
	r.step(injectLine(number, body), want, append([]string{fmt.Sprintf("inject %d %s", number, kind)}, events...)...)
}

// theirs is a carnet of no wallet; what the gates take of it the issuer has signed.
var theirs = foreign{chain: api.Hash{6}, rides: 5}

// TestTicketToldP26_6: an accept, then what is stored; one that is refused tells nothing.
func TestTicketToldP26_6(t *testing.T) {
	r := begin(t, config)
	r.given(1, theirs.ticket(config, 3, 2), "ok 3 2", "accept 1 serial 3 index 2", "store 1 serial 3 index 2")
	r.given(1, theirs.ticket(config, 3, 2), "error 190")
	r.given(1, theirs.ticket(config, 3, 3), "ok 3 3", "accept 1 serial 3 index 3", "store 1 serial 3 index 3")
	r.given(1, theirs.ticket(config, 3, 1), "error 190")
	r.given(2, theirs.ticket(config, 3, 1), "ok 3 1", "accept 2 serial 3 index 1", "store 2 serial 3 index 1")
	r.given(1, theirs.ticket(config, 5, 5), "ok 5 5", "accept 1 serial 5 index 5", "store 1 serial 5 index 5")
	r.given(1, theirs.ticket(api.Config{Gates: 1, Wallets: 1, Rows: 1, Flash: 512, Serials: 1}, 3, 4), "error 110")
}

// TestEntryToldP26_6: what is stored, where the row is new or has changed, in its index or in a flag alone.
func TestEntryToldP26_6(t *testing.T) {
	r := begin(t, config)
	r.given(2, theirs.entry(config, 3, 0), "ok 3 0 1", "store 2 serial 3")
	r.given(2, theirs.entry(config, 3, 0), "ok 3 0 0")
	r.given(2, theirs.entry(config, 3, 4), "ok 3 4 1", "store 2 serial 3 index 4")
	r.given(2, theirs.entry(config, 3, 4), "ok 3 4 0")
	r.given(2, theirs.entry(config, 3, 2), "ok 3 4 0")
	r.given(2, theirs.flagged(config, 3, 1, false), "ok 3 4 1", "store 2 serial 3 index 4")
	r.given(2, theirs.flagged(config, 3, 1, false), "ok 3 4 0")
	r.given(2, theirs.flagged(config, 3, 1, true), "ok 3 4 1", "store 2 serial 3 index 4")
	r.given(2, theirs.flagged(config, 3, 4, true), "ok 3 4 0")
	r.given(2, theirs.entry(config, 3, 5), "ok 3 5 1", "store 2 serial 3 index 5")
	bad := theirs.entry(config, 3, 4)
	bad[len(bad)-3] ^= 1
	r.given(2, bad, "error 150")
}

// TestFreezeToldP26_6: what is stored, if it is new, then that the carnet is retired, then the acknowledgement.
func TestFreezeToldP26_6(t *testing.T) {
	r := begin(t, config)
	r.given(1, theirs.freeze(config, 3), "ok 3 0 1", "store 1 serial 3", "retire 1 serial 3", "out 1 ack")
	r.given(1, theirs.freeze(config, 3), "ok 3 0 2", "retire 1 serial 3", "out 1 ack")
	r.given(1, theirs.entry(config, 4, 2), "ok 4 2 1", "store 1 serial 4 index 2")
	r.given(1, theirs.freeze(config, 4), "ok 4 2 3", "store 1 serial 4 index 2", "retire 1 serial 4", "out 1 ack")
	r.given(1, theirs.flagged(config, 5, 3, false), "ok 5 3 1", "store 1 serial 5 index 3")
	r.given(1, theirs.freeze(config, 5), "ok 5 3 4", "retire 1 serial 5", "out 1 ack")
	bad := theirs.freeze(config, 3)
	bad[len(bad)-1] ^= 1
	r.given(1, bad, "error 110")
}

// TestRevocationToldP26_6: the same, and nothing goes out.
func TestRevocationToldP26_6(t *testing.T) {
	r := begin(t, config)
	r.given(2, theirs.revocation(config, 3), "ok 3", "store 2 serial 3", "retire 2 serial 3")
	r.given(2, theirs.revocation(config, 3), "ok 3", "retire 2 serial 3")
	r.given(2, theirs.freeze(config, 3), "ok 3 0 1", "store 2 serial 3", "retire 2 serial 3", "out 2 ack")
	r.given(2, theirs.ticket(config, 4, 3), "ok 4 3", "accept 2 serial 4 index 3", "store 2 serial 4 index 3")
	r.given(2, theirs.revocation(config, 4), "ok 4", "store 2 serial 4 index 3", "retire 2 serial 4")
	bad := theirs.revocation(config, 3)
	bad[len(bad)-1] ^= 1
	r.given(2, bad, "error 110")
}

// TestFloorToldP26_6: the floor, new or known; no row that it drops, and none that is below it.
func TestFloorToldP26_6(t *testing.T) {
	r := begin(t, config)
	r.given(1, theirs.entry(config, 3, 2), "ok 3 2 1", "store 1 serial 3 index 2")
	r.given(1, floorBody(config, 3), "ok 3", "retire 1 index 3")
	r.given(1, floorBody(config, 3), "ok 3", "retire 1 index 3")
	r.given(1, floorBody(config, 65536), "ok 65536", "retire 1 index 65536")
	r.given(1, floorBody(config, 4), "error 172")
	r.given(1, theirs.freeze(config, 3), "error 172")
	r.given(1, theirs.entry(config, 3, 3), "error 172")
	r.given(1, theirs.ticket(config, 3, 3), "error 172")
}

// TestIssuerToldP26_6: a carnet that is new, and a refund; of all else that the issuer does there are only the messages.
func TestIssuerToldP26_6(t *testing.T) {
	r := begin(t, config)
	r.given(0, theirs.order(), "ok 1 0", "issue 0 serial 1 index 5", "out 0 cert")
	r.given(0, theirs.order(), "ok 1 0", "out 0 cert")
	r.step("buy 1 4096 1000000000", "ok 1 1", "out 3 order")
	r.step("double 1", "ok 2")
	r.step("deliver 2", "ok 2 3", "issue 0 serial 2 index 4096 amount 1000000000", "out 0 cert")
	r.step("deliver 1", "ok 2 4", "out 0 cert")
	r.given(0, theirs.order(), "ok 1 0", "out 0 cert")
	other := told(terms.EncodeOrder, api.Order{Rides: 4, Anchor: theirs.value(0)})
	r.given(0, other, "error 231")
	r.step("freeze 1", "ok 1 5 6", "out 0 freeze", "out 0 freeze")
	r.step("freeze 1", "ok 1 7 8", "out 0 freeze", "out 0 freeze")
	r.given(0, theirs.ack(config, 1, 1, 2), "ok 1 2 1")
	r.given(0, theirs.ack(config, 1, 1, 2), "ok 1 2 1")
	r.step("pay 1", "error 211")
	r.given(0, theirs.ack(config, 1, 2, 0), "ok 1 2 0")
	r.step("pay 1", "ok 3 0", "pay 0 serial 1 index 3")
	r.step("pay 1", "error 232")
	r.step("revoke 2", "ok 2 9 10", "out 0 revocation", "out 0 revocation")
	r.step("revoke 2", "ok 2 11 12", "out 0 revocation", "out 0 revocation")
	r.step("floor 3", "ok 3 13 14", "out 0 floor", "out 0 floor")
	r.step("floor 3", "ok 3 15 16", "out 0 floor", "out 0 floor")
	r.step("floor 2", "error 172")
}

// TestPaidToldP26_6: the rides that come back and what is paid for them, of a carnet that was ridden not at all, in part and wholly.
func TestPaidToldP26_6(t *testing.T) {
	dear := foreign{chain: api.Hash{9}, rides: 3, price: 100}
	for top, want := range map[int][]string{
		0: {"ok 3 300", "pay 0 serial 1 index 3 amount 300"},
		2: {"ok 1 100", "pay 0 serial 1 index 1 amount 100"},
		3: {"ok 0 0", "pay 0 serial 1"},
	} {
		r := begin(t, config)
		r.all(injectLine(0, dear.order())+" -> ok 1 0", "freeze 1 -> ok 1 1 2")
		r.given(0, dear.ack(config, 1, 1, top), fmt.Sprintf("ok 1 %d 1", top))
		r.given(0, dear.ack(config, 1, 2, 0), fmt.Sprintf("ok 1 %d 0", top))
		r.step("pay 1", want[0], want[1])
	}
}

// TestWalletToldP26_6: a ride, ahead of its ticket; of all else there are only the messages.
func TestWalletToldP26_6(t *testing.T) {
	r := begin(t, config)
	r.step("buy 2 2 1", "ok 1 1", "out 4 order")
	r.step("deliver 1", "ok 1 2", "issue 0 serial 1 index 2 amount 1", "out 0 cert")
	r.step("double 2", "ok 3")
	r.step("deliver 2", "ok 1 1")
	r.step("deliver 3", "ok 1 1")
	r.step("ride 2 1 1", "ok 1 1 4", "reveal 4 serial 1 index 1", "out 4 ticket")
	r.step("ride 2 1 2", "ok 1 2 5", "reveal 4 serial 1 index 2", "out 4 ticket")
	r.step("ride 2 1 2", "error 181")
	receipt := told(terms.EncodeReceipt, ring.SealReceipt(seed(config, 0), api.Receipt{Serial: 1, Rides: 1, Amount: 1}))
	r.given(4, receipt, "ok 1 1")
	r.given(4, receipt, "ok 1 1")
	r.given(3, receipt, "error 180")
	r.given(4, []byte{7}, "error 90")
}

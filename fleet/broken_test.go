package fleet_test

import (
	"bytes"
	"testing"

	"farebox/api"
	"farebox/chain"
	"farebox/ring"
	"farebox/sign"
	"farebox/terms"
)

// These are attacks by somebody who has a secret of the fleet, which is as good as having broken a cipher: the promises fail, and the trace shows by what.

// injected are the bodies that were injected ahead of the first event that is asked for, and those that were sent by then.
func injected(t *testing.T, r *rig, is func(e api.Event) bool) (in, out [][]byte) {
	t.Helper()
	for _, e := range r.f.Trace() {
		switch {
		case is(e):
			return in, out
		case e.Kind == api.EventInject:
			in = append(in, e.Body)
		case e.Kind == api.EventOut:
			out = append(out, e.Body)
		}
	}
	t.Fatal("W7: what is looked for was not told")
	return nil, nil
}

// forgeries counts what is signed in injected bodies by a key, and by nobody in the bodies that were sent.
func forgeries(in, out [][]byte, key api.Key) int {
	sent := map[string]bool{}
	for _, body := range out {
		said, _, _ := terms.Said(body)
		for _, say := range said {
			sent[string(say)] = true
		}
	}
	n := 0
	for _, body := range in {
		said, sigs, _ := terms.Said(body)
		for i, say := range said {
			if !sent[string(say)] && sign.Verify(key, say, sigs[i]) {
				n++
			}
		}
	}
	return n
}

func isAccept(e api.Event) bool { return e.Kind == api.EventAccept }

// TestForgedCertW7: a carnet that was never issued is ridden; the certificate stands in the trace, ahead of the accept.
func TestForgedCertW7(t *testing.T) {
	r := begin(t, config)
	ticket := theirs.ticket(config, 4, 2)
	r.given(1, ticket, "ok 4 2", "accept 1 serial 4 index 2", "store 1 serial 4 index 2")
	in, out := injected(t, r, isAccept)
	if len(in) != 1 || !bytes.Equal(in[0], ticket) || forgeries(in, out, keysOf(config).Issuer) != 1 {
		t.Errorf("W7: the trace shows %x", in)
	}
}

// TestForgedAckW7: rides that were accepted are paid back; the acknowledgement that its gate has not sent stands in the trace, ahead of the payout.
func TestForgedAckW7(t *testing.T) {
	r := sold(t, config).all("ride 1 1 1 -> ok 1 1 3", "deliver 3 -> ok 1 1", "freeze 1 -> ok 1 4 5", "deliver 5 -> ok 1 0 6", "deliver 6 -> ok 1 0 1")
	s, _ := r.f.Issuer()
	ack := ring.SealAck(seed(config, 1), api.Ack{Serial: 1, Gate: 1, Index: 0, Value: s.Carnets[0].Cert.Anchor})
	r.given(0, told(terms.EncodeAck, ack), "ok 1 0 0")
	r.step("pay 1", "ok 3 300 7", "pay 0 serial 1 index 3 amount 300", "out 0 receipt")
	in, out := injected(t, r, func(e api.Event) bool { return e.Kind == api.EventPay })
	if forgeries(in, out, keysOf(config).Gates[0]) != 1 || forgeries(in, out, keysOf(config).Gates[1]) != 0 {
		t.Errorf("W7: the trace shows %x", in)
	}
}

// TestForgedFreezeW7: one who has not the key gets nothing of the kind accepted, and all that he has tried is told.
func TestForgedFreezeW7(t *testing.T) {
	r := sold(t, config)
	s, _ := r.f.Issuer()
	freeze := told(terms.EncodeFreeze, ring.SealFreeze(enemySeed, api.Freeze{Cert: s.Carnets[0].Cert}))
	r.given(1, freeze, "error 110")
	r.step("ride 1 1 1", "ok 1 1 3", "reveal 3 serial 1 index 1", "out 3 ticket")
	r.step("deliver 3", "ok 1 1", "accept 1 serial 1 index 1", "store 1 serial 1 index 1")
	in, out := injected(t, r, isAccept)
	if len(in) != 1 || !bytes.Equal(in[0], freeze) || forgeries(in, out, keysOf(config).Issuer) != 0 {
		t.Errorf("W7: the trace shows %x", in)
	}
}

// TestPreimageW7: a ride is accepted that was never revealed; the trace shows the value that leads to a told one, and that nobody has sent it.
func TestPreimageW7(t *testing.T) {
	r := sold(t, config)
	first, _ := terms.DecodeTicket(r.rides(1, 1)[0])
	// The wallet reveals the third ride in a copy of it that runs elsewhere: this is where an enemy may have it from.
	copied := resume(t, config, r.f.Files())
	stolen := copied.rides(2, 1)[1]
	r.given(2, stolen, "ok 1 3", "accept 2 serial 1 index 3", "store 2 serial 1 index 3")
	in, out := injected(t, r, isAccept)
	x, err := terms.DecodeTicket(in[0])
	if err != api.OK || len(in) != 1 || !chain.Link(1, first.Value, 3, x.Value) {
		t.Errorf("W7: the trace shows %x", in)
	}
	for _, body := range out {
		if bytes.Contains(body, x.Value[:]) {
			t.Errorf("W7: %x was sent", body)
		}
	}
}

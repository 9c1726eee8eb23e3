package issuer_test

import (
	"math/big"
	"slices"
	"testing"

	"farebox/api"
	"farebox/issuer"
	"farebox/ledger"
	"farebox/merkle"
	"farebox/ring"
)

// watch looks at an Issuer whose flash was blank, behind each of its operations: what follows from the promises must hold from one look to the next.
type watch struct {
	t    *testing.T
	old  api.IssuerState
	head api.Head
	log  []api.Head // all heads so far
	paid map[int]int
}

func newWatch(t *testing.T) *watch { return &watch{t: t, paid: map[int]int{}} }

// look is one of the state; the log's proofs take their time, and are asked for where that is wanted.
func (w *watch) look(i *issuer.Issuer, proofs bool) {
	w.t.Helper()
	s := i.State()
	w.money(s)
	w.oneWay(s)
	if proofs {
		w.honest(i, s)
	}
	w.old = s
}

// money is P23.12, in numbers without an end.
func (w *watch) money(s api.IssuerState) {
	w.t.Helper()
	unearned, cash, earned := new(big.Int), new(big.Int), new(big.Int)
	for _, c := range s.Carnets {
		cost := new(big.Int).Mul(big.NewInt(int64(c.Cert.Rides)), big.NewInt(c.Cert.Price))
		cash.Add(cash, cost)
		cash.Sub(cash, big.NewInt(c.Paid))
		if c.Status == api.Issued || c.Status == api.Freezing {
			unearned.Add(unearned, cost)
		}
		want := int64(0)
		if c.Status == api.Paid {
			want = int64(c.Cert.Rides-c.Refund.Top) * c.Cert.Price
		}
		if c.Paid != want {
			w.t.Fatalf("P23.12: %d was paid for %+v", c.Paid, c)
		}
	}
	earned.Sub(cash, unearned)
	for account, want := range []*big.Int{cash, unearned, earned} {
		if got, err := ledger.Balance(s.Book, account); err != api.OK || want.Cmp(big.NewInt(got)) != 0 {
			w.t.Fatalf("P23.12: account %d is %d, want %d", account, got, want)
		}
	}
	if !ledger.Even(s.Book) {
		w.t.Fatalf("P23.12: the book %v is not even", s.Book)
	}
}

// oneWay is P23.13.
func (w *watch) oneWay(s api.IssuerState) {
	w.t.Helper()
	if s.Floor.Floor < w.old.Floor.Floor || len(s.Carnets) < len(w.old.Carnets) {
		w.t.Fatalf("P23.13: the floor %d behind %d, %d carnets behind %d", s.Floor.Floor, w.old.Floor.Floor, len(s.Carnets), len(w.old.Carnets))
	}
	for k, c := range s.Carnets {
		was := api.Carnet{Owner: c.Owner, Cert: c.Cert, Status: api.Issued}
		if k < len(w.old.Carnets) {
			was = w.old.Carnets[k]
		}
		if c.Cert != was.Cert || c.Owner != was.Owner || c.Cert.Serial != k+1 || c.Owner != 0 && !isWallet(config, c.Owner) {
			w.t.Fatalf("P23.13: carnet %d is %+v, was %+v", k+1, c, was)
		}
		from := map[int][]int{api.Issued: {api.Issued, api.Freezing, api.Revoked}, api.Freezing: {api.Freezing, api.Paid, api.Revoked}, api.Paid: {api.Paid}, api.Revoked: {api.Revoked}}
		if !slices.Contains(from[was.Status], c.Status) {
			w.t.Fatalf("P23.13: carnet %d is %d behind %d", k+1, c.Status, was.Status)
		}
		if c.Status == api.Paid && was.Status == api.Freezing && (missing(was.Refund) > 0 || len(was.Refund.Acked) != config.Gates) {
			w.t.Fatalf("P23.13: carnet %d is paid behind %+v", k+1, was.Refund)
		}
		if c.Status == api.Paid && was.Status != api.Paid {
			w.paid[k+1]++
		}
		if w.paid[k+1] > 1 {
			w.t.Fatalf("P23.12: carnet %d was paid twice", k+1)
		}
	}
}

// honest is P23.15.
func (w *watch) honest(i *issuer.Issuer, s api.IssuerState) {
	w.t.Helper()
	if len(s.Leaves) < len(w.old.Leaves) || !slices.Equal(s.Leaves[:len(w.old.Leaves)], w.old.Leaves) {
		w.t.Fatal("P23.15: the log has not only grown")
	}
	h := i.Head()
	root, _ := merkle.Root(s.Leaves)
	if h.Size != len(s.Leaves) || h.Root != root || h != i.Head() {
		w.t.Fatalf("P23.11: the head %+v of %d leaves", h, len(s.Leaves))
	}
	if len(w.log) == 0 || w.log[len(w.log)-1] != h {
		if !ring.CheckHead(keys(), h) {
			w.t.Fatalf("P23.15: the head %+v is not signed", h)
		}
		w.log = append(w.log, h)
	}
	for _, old := range w.log {
		proof, ok := merkle.Consistency(s.Leaves, old.Size)
		if !ok || !merkle.CheckConsistency(old.Size, h.Size, old.Root, h.Root, proof) {
			w.t.Fatalf("P23.15: the log of %d leaves is no beginning of that of %d", old.Size, h.Size)
		}
	}
	for k, c := range s.Carnets {
		leaf := leafOf(tellCert(c.Cert))
		proof, err := i.Prove(k + 1)
		at := slices.Index(s.Leaves, leaf)
		if err != api.OK || !merkle.CheckInclusion(leaf, at, h.Size, proof, h.Root) {
			w.t.Fatalf("P23.15: Prove(%d) = %d hashes, %d", k+1, len(proof), err)
		}
	}
	for _, n := range []int{-1, 0, len(s.Carnets) + 1} {
		if proof, err := i.Prove(n); err != api.ErrSerial || len(proof) > 0 {
			w.t.Fatalf("P23.11: Prove(%d) = %d hashes, %d", n, len(proof), err)
		}
	}
}

// anyOp is an operation by chance, on carnets of chains 1 to 9.
func anyOp(r interface{ IntN(int) int }, s api.IssuerState) op {
	n := r.IntN(8)
	switch r.IntN(10) {
	case 0, 1:
		k := 1 + r.IntN(9)
		return taking(r.IntN(8)-1, order(k, int64(k)*7+int64(r.IntN(40)/39)))
	case 2:
		return freezing(n)
	case 3:
		return paying(n)
	case 4:
		if r.IntN(3) > 0 {
			return freezing(n)
		}
		return revoking(n)
	case 5:
		if r.IntN(4) > 0 {
			return paying(n)
		}
		return raising(n - r.IntN(4))
	}
	// An acknowledgement that is likely to be good.
	gate, index, k := 1+r.IntN(3), r.IntN(4), 1+r.IntN(9)
	for _, c := range s.Carnets {
		if c.Cert.Serial == n {
			for k = 1; k <= 9 && anchor(k) != c.Cert.Anchor; k++ {
			}
		}
	}
	switch r.IntN(12) {
	case 0:
		return taking(gate, tellAck(1+r.IntN(3), api.Ack{Serial: n + 1, Gate: gate, Index: index, Value: value(k, 3, index)}))
	case 1:
		return taking(gate, tellAck(gate, api.Ack{Serial: n + 1, Gate: gate, Index: index + 1, Value: value(k, 3, index)}))
	}
	return ack(gate, n, k, index)
}

// TestAnyRunP23: runs by chance, beside the model; the books, the statuses and the log behind each operation; opened again now and then.
func TestAnyRunP23(t *testing.T) {
	t.Parallel()
	met := map[api.Errno]int{}
	seen := map[int]int{}
	for n := range uint64(25) {
		r := chance(100 + n)
		c := config
		c.Flash = 512 + r.IntN(2500)
		p, w := begin(t, c), newWatch(t)
		w.look(p.i, true)
		for range 70 {
			met[p.do(anyOp(r, p.m.s)).Err]++
			if r.IntN(10) == 0 {
				p.open()
			}
			w.look(p.i, r.IntN(4) == 0)
		}
		w.look(p.i, true)
		for _, c := range p.m.s.Carnets {
			seen[c.Status]++
		}
	}
	for _, err := range []api.Errno{api.OK, api.ErrSerial, api.ErrFloor, api.ErrStatus, api.ErrAnchor, api.ErrOpen, api.ErrSign, api.ErrChain, api.ErrArg, api.ErrRoom, api.ErrAcked} {
		if met[err] == 0 {
			t.Errorf("no operation has answered %d: %v", err, met)
		}
	}
	for status := api.Issued; status <= api.Revoked; status++ {
		if seen[status] == 0 {
			t.Errorf("no carnet was of status %d in the end: %v", status, seen)
		}
	}
}

// TestEachStepP23_12: one carnet's whole life, and the books, the statuses and the log behind each operation of it.
func TestEachStepP23_12(t *testing.T) {
	for _, end := range [][]op{{paying(1)}, {revoking(1)}, {raising(2), paying(1)}, {raising(2), revoking(1)}} {
		p, w := begin(t, config), newWatch(t)
		w.look(p.i, true)
		for _, o := range slices.Concat([]op{taking(4, order(1, 250)), taking(5, tellOrder(4096, 1000000000, value(2, 4096, 0))), freezing(1), ack(1, 1, 1, 1), ack(2, 1, 1, 2), ack(3, 1, 1, 0), ack(1, 1, 1, 2)}, end, []op{freezing(1), paying(1), revoking(1), ack(1, 1, 1, 3), revoking(2), raising(7)}) {
			p.do(o)
			w.look(p.i, true)
		}
	}
}

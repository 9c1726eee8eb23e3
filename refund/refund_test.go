package refund_test

import (
	"math"
	"strings"
	"testing"

	"farebox/api"
	"farebox/refund"
)

var none api.Refund

// TestChapter: the chapter's examples.
func TestChapter(t *testing.T) {
	a := begin(t, 7, 10, 3)
	if !same(a, with(7, 10, "...", 0)) {
		t.Errorf("P21.1: Begin(7, 10, 3) = %s", brief(a))
	}
	for _, c := range [][3]int{{0, 10, 3}, {7, 0, 3}, {7, 4097, 3}, {7, 10, 17}} {
		if x, ok := refund.Begin(c[0], c[1], c[2]); ok || !same(x, none) {
			t.Errorf("P21.1: Begin%v = %s, %v", c, brief(x), ok)
		}
	}
	b := ack(t, a, 2, 4)
	if !same(b, with(7, 10, ".x.", 4)) {
		t.Errorf("P21.2: B is %s", brief(b))
	}
	wantMissing(t, b, 1, 3)
	wantRides(t, b, 0, api.ErrOpen)
	for _, c := range [][2]int{{4, 0}, {0, 0}, {1, 11}, {1, -1}} {
		wantAck(t, b, c[0], c[1], none, api.ErrAcked)
	}
	wantAck(t, b, 2, 3, b, api.OK)
	c := ack(t, ack(t, b, 1, 6), 3, 0)
	wantMissing(t, c)
	wantRides(t, c, 4, api.OK)
	wantJoin(t, b, ack(t, a, 3, 5), with(7, 10, ".xx", 5), api.OK)
	for _, x := range []api.Refund{begin(t, 8, 10, 3), begin(t, 7, 9, 3), begin(t, 7, 10, 2)} {
		wantJoin(t, a, x, none, api.ErrAcked)
	}
}

// edge is a number and whether it may be.
type edge struct {
	n  int
	ok bool
}

// TestBeginP21_1: each number at the ends of its range, of an int and in between, with each of the others.
func TestBeginP21_1(t *testing.T) {
	serials := []edge{{math.MinInt, false}, {-1, false}, {0, false}, {1, true}, {2, true}, {65535, true}, {65536, true}, {math.MaxInt, true}}
	rides := []edge{{math.MinInt, false}, {-1, false}, {0, false}, {1, true}, {2, true}, {4095, true}, {4096, true}, {4097, false}, {math.MaxInt, false}}
	gates := []edge{{math.MinInt, false}, {-1, false}, {0, false}, {1, true}, {2, true}, {15, true}, {16, true}, {17, false}, {math.MaxInt, false}}
	for _, s := range serials {
		for _, r := range rides {
			for _, g := range gates {
				want, wantOK := none, s.ok && r.ok && g.ok
				if wantOK {
					want = with(s.n, r.n, strings.Repeat(".", g.n), 0)
				}
				if x, ok := refund.Begin(s.n, r.n, g.n); ok != wantOK || !same(x, want) {
					t.Errorf("P21.1: Begin(%d, %d, %d) = %s, %v", s.n, r.n, g.n, brief(x), ok)
				}
			}
		}
	}
}

// TestBegunP21_1: a refund that is begun waits for all its gates.
func TestBegunP21_1(t *testing.T) {
	for gates := 1; gates <= api.MaxGates; gates++ {
		x := begin(t, 3, 5, gates)
		var all []int
		for gate := 1; gate <= gates; gate++ {
			all = append(all, gate)
		}
		wantMissing(t, x, all...)
		wantRides(t, x, 0, api.ErrOpen)
	}
}

// TestAckP21_2: gates and indexes at the ends of their ranges, with each other, of refunds of few and of many gates and rides.
func TestAckP21_2(t *testing.T) {
	for _, gates := range []int{1, 2, 3, 16} {
		for _, rides := range []int{1, 2, 10, 4096} {
			x := begin(t, 7, rides, gates)
			for _, g := range []edge{{math.MinInt, false}, {-1, false}, {0, false}, {1, true}, {gates, true}, {gates + 1, false}, {math.MaxInt, false}} {
				for _, i := range []edge{{math.MinInt, false}, {-1, false}, {0, true}, {1, true}, {rides, true}, {rides + 1, false}, {math.MaxInt, false}} {
					if !g.ok || !i.ok {
						wantAck(t, x, g.n, i.n, none, api.ErrAcked)
						continue
					}
					text := strings.Repeat(".", g.n-1) + "x" + strings.Repeat(".", gates-g.n)
					wantAck(t, x, g.n, i.n, with(7, rides, text, i.n), api.OK)
				}
			}
		}
	}
}

// TestAckAgainP21_2: Top does not fall, whether the gate is a new one or has acknowledged before; what is refused is so with what has come before, too.
func TestAckAgainP21_2(t *testing.T) {
	x := with(7, 10, ".x.x", 6)
	for index := 0; index <= 10; index++ {
		top := 6
		if index > 6 {
			top = index
		}
		wantAck(t, x, 1, index, with(7, 10, "xx.x", top), api.OK)
		wantAck(t, x, 2, index, with(7, 10, ".x.x", top), api.OK)
		wantAck(t, x, 3, index, with(7, 10, ".xxx", top), api.OK)
		wantAck(t, x, 4, index, with(7, 10, ".x.x", top), api.OK)
	}
	for _, gate := range []int{-1, 0, 5, math.MinInt, math.MaxInt} {
		wantAck(t, x, gate, 7, none, api.ErrAcked)
	}
	for _, index := range []int{-1, 11, math.MinInt, math.MaxInt} {
		wantAck(t, x, 2, index, none, api.ErrAcked)
	}
}

// TestAckUnmadeP21_2: refunds that no call made.
func TestAckUnmadeP21_2(t *testing.T) {
	wantAck(t, with(7, 3, "..", 9), 2, 3, with(7, 3, ".x", 9), api.OK) // a Top above the Rides stays
	wantAck(t, with(7, 3, "..", 9), 2, 4, none, api.ErrAcked)
	wantAck(t, with(7, 0, "..", 0), 1, 0, with(7, 0, "x.", 0), api.OK)
	wantAck(t, with(7, 0, "..", 0), 1, 1, none, api.ErrAcked)
	wantAck(t, with(7, 0, "..", 4096), 1, 0, with(7, 0, "x.", 4096), api.OK)
	wantAck(t, with(7, 4096, "..", 4096), 1, 4096, with(7, 4096, "x.", 4096), api.OK)
	for _, serial := range edges {
		wantAck(t, with(serial, 5, ".", 2), 1, 3, with(serial, 5, "x", 3), api.OK)
	}
	for _, x := range []api.Refund{{}, {Serial: 7, Rides: 10}, {Serial: 7, Rides: 10, Acked: []bool{}, Top: 3}} {
		for _, gate := range edges {
			wantAck(t, x, gate, 0, none, api.ErrAcked)
		}
	}
	many := with(7, 10, strings.Repeat(".", 300), 0)
	wantAck(t, many, 17, 2, with(7, 10, strings.Repeat(".", 16)+"x"+strings.Repeat(".", 283), 2), api.OK)
	wantAck(t, many, 300, 2, with(7, 10, strings.Repeat(".", 299)+"x", 2), api.OK)
	wantAck(t, many, 301, 2, none, api.ErrAcked)
}

// TestMissingP21_3: none, some and all gates, in all ways of up to eight, whatever else the refund says.
func TestMissingP21_3(t *testing.T) {
	for gates := 0; gates <= 8; gates++ {
		for n := range 1 << gates {
			x := api.Refund{Serial: n, Rides: n % 5, Top: n % 7}
			var want []int
			for i := range gates {
				acked := n>>i&1 == 1
				x.Acked = append(x.Acked, acked)
				if !acked {
					want = append(want, i+1)
				}
			}
			wantMissing(t, x, want...)
		}
	}
	wantMissing(t, api.Refund{})
	wantMissing(t, api.Refund{Serial: 7, Rides: 10, Acked: []bool{}, Top: 4})
	wantMissing(t, with(7, 10, "xxxxxxxxxxxxxxxx", 4))
	wantMissing(t, with(7, 10, "xxxxxxxxxxxxxxx.", 4), 16)
	wantMissing(t, with(7, 10, ".xxxxxxxxxxxxxxx", 4), 1)
	wantMissing(t, with(7, 10, "xxxxxxxxxxxxxxxx.x.", 4), 17, 19)
	wantMissing(t, with(7, 10, strings.Repeat("x", 5000)+".", 4), 5001)
}

// TestRidesP21_4: what is refunded, and that nothing is as long as a gate is missing.
func TestRidesP21_4(t *testing.T) {
	for _, c := range []struct{ rides, top, want int }{
		{10, 0, 10}, {10, 1, 9}, {10, 9, 1}, {10, 10, 0},
		{1, 0, 1}, {1, 1, 0}, {4096, 0, 4096}, {4096, 4095, 1}, {4096, 4096, 0},
		{10, 11, -1}, {1, 4096, -4095}, {0, 0, 0}, {0, 4096, -4096},
	} {
		for _, gates := range []string{"", "x", "xxx", "xxxxxxxxxxxxxxxx", "xxxxxxxxxxxxxxxxx"} {
			wantRides(t, with(7, c.rides, gates, c.top), c.want, api.OK)
		}
		for _, gates := range []string{".", ".xx", "x.x", "xx.", "...", "xxxxxxxxxxxxxxx.", "xxxxxxxxxxxxxxxx."} {
			wantRides(t, with(7, c.rides, gates, c.top), 0, api.ErrOpen)
		}
	}
	wantRides(t, api.Refund{}, 0, api.OK)
	wantRides(t, api.Refund{Acked: []bool{}, Top: 3}, -3, api.OK)
}

// TestJoinP21_5: gates of both, in all ways of three, and the greater Top.
func TestJoinP21_5(t *testing.T) {
	ways := []string{"...", "x..", ".x.", "xx.", "..x", "x.x", ".xx", "xxx"}
	for i, a := range ways {
		for j, b := range ways {
			for _, tops := range [][3]int{{0, 0, 0}, {0, 4, 4}, {3, 4, 4}, {4, 4, 4}, {5, 4, 5}, {10, 0, 10}} {
				wantJoin(t, with(7, 10, a, tops[0]), with(7, 10, b, tops[1]), with(7, 10, ways[i|j], tops[2]), api.OK)
			}
		}
	}
	x := with(7, 10, ".x.", 4)
	wantJoin(t, x, x, x, api.OK) // with itself: both share an Acked
	y := x
	y.Top = 9
	wantJoin(t, x, y, with(7, 10, ".x.", 9), api.OK)
}

// TestUnlikeP21_5: each thing that may be unlike, alone and with others.
func TestUnlikeP21_5(t *testing.T) {
	x := with(7, 10, ".x.", 4)
	for _, y := range []api.Refund{
		with(8, 10, ".x.", 4), with(6, 10, ".x.", 4), with(-7, 10, ".x.", 4), with(0, 10, ".x.", 4),
		with(7, 9, ".x.", 4), with(7, 11, ".x.", 4), with(7, 0, ".x.", 4),
		with(7, 10, ".x", 4), with(7, 10, ".x..", 4), with(7, 10, "", 4), with(7, 10, "xxxxxxxxxxxxxxxxx", 4),
		with(8, 9, ".x.", 4), with(8, 10, ".x", 4), with(7, 9, ".x", 4), with(8, 9, ".x", 0), {},
	} {
		wantJoin(t, x, y, none, api.ErrAcked)
	}
	whole := marks(".x.")
	wantJoin(t, api.Refund{Serial: 7, Rides: 10, Acked: whole}, api.Refund{Serial: 7, Rides: 10, Acked: whole[:2]}, none, api.ErrAcked)
}

// TestJoinUnmadeP21_5: refunds that no call made.
func TestJoinUnmadeP21_5(t *testing.T) {
	wantJoin(t, none, none, none, api.OK)
	wantJoin(t, none, api.Refund{Acked: []bool{}}, none, api.OK)
	wantJoin(t, api.Refund{Serial: 7, Rides: 10}, api.Refund{Serial: 7, Rides: 10, Acked: []bool{}, Top: 3}, with(7, 10, "", 3), api.OK)
	wantJoin(t, with(7, 3, "x.", 9), with(7, 3, "..", 4), with(7, 3, "x.", 9), api.OK)
	wantJoin(t, with(7, 0, "x.", 0), with(7, 0, ".x", 4096), with(7, 0, "xx", 4096), api.OK)
	wantJoin(t, with(7, 10, "...", 6), with(7, 10, "x..", 0), with(7, 10, "x..", 6), api.OK)
	many := strings.Repeat("x.", 150)
	wantJoin(t, with(math.MinInt, 10, many, 1), with(math.MinInt, 10, strings.Repeat(".", 299)+"x", 2), with(math.MinInt, 10, many[:299]+"x", 2), api.OK)
}

// TestByChanceP21: all calls beside the plainest of collections, with refunds that no call made among them.
func TestByChanceP21(t *testing.T) {
	r := chance(1)
	for range 3000 {
		gates := r.IntN(20)
		x, y := drawUnmade(r, gates), drawUnmade(r, gates)
		y.Serial, y.Rides = x.Serial, x.Rides
		missing := knownOf(x).missing()
		wantMissing(t, x, missing...)
		if len(missing) > 0 {
			wantRides(t, x, 0, api.ErrOpen)
		} else {
			wantRides(t, x, x.Rides-x.Top, api.OK)
		}
		gate, index := r.IntN(gates+3)-1, r.IntN(x.Rides+3)-1
		if may := gate > 0 && gate <= gates && index >= 0 && index <= x.Rides; may {
			k := knownOf(x)
			k.by[gate], k.top = 1, max(k.top, index)
			wantAck(t, x, gate, index, k.told(), api.OK)
		} else {
			wantAck(t, x, gate, index, none, api.ErrAcked)
		}
		k := knownOf(x)
		for gate := range knownOf(y).by {
			k.by[gate] = 1
		}
		k.top = max(x.Top, y.Top)
		wantJoin(t, x, y, k.told(), api.OK)
	}
}

package refund_test

import (
	"fmt"
	"math"
	"math/rand/v2"
	"slices"
	"testing"

	"farebox/api"
	"farebox/refund"
)

// edges are the numbers by the ends of an int, around 0 and around the limits.
var edges = []int{math.MinInt, math.MinInt + 1, -4097, -4096, -2, -1, 0, 1, 2, 15, 16, 17, 4095, 4096, 4097, 65535, 65536, math.MaxInt - 1, math.MaxInt}

func chance(n uint64) *rand.Rand { return rand.New(rand.NewPCG(21, n)) }

// marks are the gates of a text of a letter each: x has acknowledged.
func marks(text string) []bool {
	var l []bool
	for _, c := range text {
		l = append(l, c == 'x')
	}
	return l
}

// with is a refund laid out by hand.
func with(serial, rides int, gates string, top int) api.Refund {
	return api.Refund{Serial: serial, Rides: rides, Acked: marks(gates), Top: top}
}

func same(x, y api.Refund) bool {
	return x.Serial == y.Serial && x.Rides == y.Rides && x.Top == y.Top && slices.Equal(x.Acked, y.Acked)
}

func brief(x api.Refund) string {
	text := ""
	for _, acked := range x.Acked {
		if acked {
			text += "x"
		} else {
			text += "."
		}
	}
	return fmt.Sprintf("{%d, %d, %q, %d}", x.Serial, x.Rides, text, x.Top)
}

func begin(t *testing.T, serial, rides, gates int) api.Refund {
	t.Helper()
	x, ok := refund.Begin(serial, rides, gates)
	if !ok {
		t.Fatalf("P21.1: Begin(%d, %d, %d) is refused", serial, rides, gates)
	}
	return x
}

func ack(t *testing.T, x api.Refund, gate, index int) api.Refund {
	t.Helper()
	after, err := refund.Ack(x, gate, index)
	if err != api.OK {
		t.Fatalf("P21.2: Ack(%s, %d, %d): %d", brief(x), gate, index, err)
	}
	return after
}

func join(t *testing.T, x, y api.Refund) api.Refund {
	t.Helper()
	both, err := refund.Join(x, y)
	if err != api.OK {
		t.Fatalf("P21.5: Join(%s, %s): %d", brief(x), brief(y), err)
	}
	return both
}

// wantAck asks an acknowledgement's answer; a refusal's is a zero refund.
func wantAck(t *testing.T, x api.Refund, gate, index int, want api.Refund, wantErr api.Errno) {
	t.Helper()
	if got, err := refund.Ack(x, gate, index); err != wantErr || !same(got, want) {
		t.Errorf("P21.2: Ack(%s, %d, %d) = %s, %d, want %s, %d", brief(x), gate, index, brief(got), err, brief(want), wantErr)
	}
}

// wantMissing asks which gates are missing, and whether none is.
func wantMissing(t *testing.T, x api.Refund, want ...int) {
	t.Helper()
	if got := refund.Missing(x); !slices.Equal(got, want) {
		t.Errorf("P21.3: Missing(%s) = %v, want %v", brief(x), got, want)
	}
	if got := refund.Done(x); got != (len(want) == 0) {
		t.Errorf("P21.3: Done(%s) = %v", brief(x), got)
	}
}

// wantRides asks what is refunded; of a refund that is open it is 0.
func wantRides(t *testing.T, x api.Refund, want int, wantErr api.Errno) {
	t.Helper()
	if got, err := refund.Rides(x); got != want || err != wantErr {
		t.Errorf("P21.4: Rides(%s) = %d, %d, want %d, %d", brief(x), got, err, want, wantErr)
	}
}

// wantJoin asks a join's answer, both ways round; a refusal's is a zero refund.
func wantJoin(t *testing.T, x, y, want api.Refund, wantErr api.Errno) {
	t.Helper()
	for _, p := range [][2]api.Refund{{x, y}, {y, x}} {
		if got, err := refund.Join(p[0], p[1]); err != wantErr || !same(got, want) {
			t.Errorf("P21.5: Join(%s, %s) = %s, %d, want %s, %d", brief(p[0]), brief(p[1]), brief(got), err, brief(want), wantErr)
		}
	}
}

// drawUnmade is a refund of which the promises hold, whether or not a call could make it.
func drawUnmade(r *rand.Rand, gates int) api.Refund {
	x := api.Refund{Serial: edges[r.IntN(len(edges))], Rides: r.IntN(api.MaxRides + 1), Top: r.IntN(api.MaxRides + 1)}
	if r.IntN(3) == 0 {
		x.Rides = r.IntN(3)
	}
	if r.IntN(3) == 0 {
		x.Top = r.IntN(3)
	}
	rare := r.IntN(4)
	for range gates {
		x.Acked = append(x.Acked, r.IntN(4) > rare)
	}
	return x
}

// drawFree is a refund of any numbers.
func drawFree(r *rand.Rand) api.Refund {
	x := drawUnmade(r, r.IntN(20))
	x.Rides, x.Top = edges[r.IntN(len(edges))], edges[r.IntN(len(edges))]
	return x
}

// known are the gates that have acknowledged, with what else a refund says: the plainest thing to hold an answer against.
type known struct {
	serial, rides, gates, top int
	by                        map[int]int
}

func knownOf(x api.Refund) known {
	k := known{serial: x.Serial, rides: x.Rides, gates: len(x.Acked), top: x.Top, by: map[int]int{}}
	for i, acked := range x.Acked {
		if acked {
			k.by[i+1] = 1
		}
	}
	return k
}

// told is the refund that says so.
func (k known) told() api.Refund {
	x := api.Refund{Serial: k.serial, Rides: k.rides, Top: k.top}
	for gate := 1; gate <= k.gates; gate++ {
		x.Acked = append(x.Acked, k.by[gate] > 0)
	}
	return x
}

// missing are the gates that are not known.
func (k known) missing() []int {
	var l []int
	for gate := 1; gate <= k.gates; gate++ {
		if k.by[gate] == 0 {
			l = append(l, gate)
		}
	}
	return l
}

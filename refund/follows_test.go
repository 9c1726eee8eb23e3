package refund_test

import (
	"math/rand/v2"
	"slices"
	"testing"

	"farebox/api"
	"farebox/refund"
)

// made are all refunds that calls make of one carnet and number of gates: from the begun one on by acknowledgements and joins, till nothing new comes.
func made(t *testing.T, rides, gates int) []api.Refund {
	t.Helper()
	all := []api.Refund{begin(t, 7, rides, gates)}
	lay := func(x api.Refund) {
		if !slices.ContainsFunc(all, func(y api.Refund) bool { return same(x, y) }) {
			all = append(all, x)
		}
	}
	for i := 0; i < len(all); i++ {
		for gate := 1; gate <= gates; gate++ {
			for index := 0; index <= rides; index++ {
				lay(ack(t, all[i], gate, index))
			}
		}
		for j := range i {
			lay(join(t, all[i], all[j]))
		}
	}
	return all
}

// within tells whether a refund knows nothing that another does not.
func within(x, y api.Refund) bool {
	for i, acked := range x.Acked {
		if acked && !y.Acked[i] {
			return false
		}
	}
	return x.Top <= y.Top
}

// TestLatticeP21_6: Join on all made refunds of few rides and gates turns about, brackets as one likes, is the refund itself of one with itself, and the least that knows what both know.
func TestLatticeP21_6(t *testing.T) {
	for _, c := range []struct{ rides, gates, want int }{{1, 1, 3}, {3, 2, 13}, {2, 3, 22}} {
		all := made(t, c.rides, c.gates)
		if len(all) != c.want {
			t.Errorf("P21.6: %d refunds are made of %d rides and %d gates, want %d", len(all), c.rides, c.gates, c.want)
		}
		for _, x := range all {
			if !same(join(t, x, x), x) || !same(join(t, all[0], x), x) {
				t.Fatalf("P21.6: %s with itself, or with the begun one", brief(x))
			}
			for _, y := range all {
				both := join(t, x, y)
				if !same(both, join(t, y, x)) || !within(x, both) || !within(y, both) || within(x, y) != same(both, y) {
					t.Fatalf("P21.6: Join(%s, %s) = %s", brief(x), brief(y), brief(both))
				}
				for _, z := range all {
					if !same(join(t, both, z), join(t, x, join(t, y, z))) {
						t.Fatalf("P21.6: %s, %s and %s are grouped", brief(x), brief(y), brief(z))
					}
					if within(x, z) && within(y, z) && !within(both, z) {
						t.Fatalf("P21.6: %s knows what %s and %s know, and not what %s does", brief(z), brief(x), brief(y), brief(both))
					}
				}
			}
		}
	}
}

// TestNothingBackP21_6: of all made refunds, an acknowledgement lets no gate fall out and no Top fall, twice is as once, and two turn about; it is the join with the begun one that has it.
func TestNothingBackP21_6(t *testing.T) {
	const rides, gates = 2, 3
	begun := begin(t, 7, rides, gates)
	var acks [][2]int
	for gate := 1; gate <= gates; gate++ {
		for index := 0; index <= rides; index++ {
			acks = append(acks, [2]int{gate, index})
		}
	}
	for _, x := range made(t, rides, gates) {
		for _, a := range acks {
			one := ack(t, x, a[0], a[1])
			if !within(x, one) || !one.Acked[a[0]-1] || one.Top < a[1] {
				t.Fatalf("P21.6: Ack(%s, %d, %d) = %s", brief(x), a[0], a[1], brief(one))
			}
			if !same(ack(t, one, a[0], a[1]), one) || !same(join(t, x, ack(t, begun, a[0], a[1])), one) {
				t.Fatalf("P21.6: Ack(%s, %d, %d) twice, or by a join", brief(x), a[0], a[1])
			}
			for _, b := range acks {
				if !same(ack(t, one, b[0], b[1]), ack(t, ack(t, x, b[0], b[1]), a[0], a[1])) {
					t.Fatalf("P21.6: %v and %v at %s in either order", a, b, brief(x))
				}
			}
		}
	}
}

// TestInRangeP21_6: of all made refunds Top is one of a carnet's indexes, and 0 without an acknowledgement; what is refunded is from 0 to the rides.
func TestInRangeP21_6(t *testing.T) {
	for _, c := range [][2]int{{1, 1}, {5, 1}, {3, 2}, {2, 3}} {
		done := 0
		for _, x := range made(t, c[0], c[1]) {
			if x.Serial != 7 || x.Rides != c[0] || len(x.Acked) != c[1] || x.Top < 0 || x.Top > c[0] || x.Top > 0 && !slices.Contains(x.Acked, true) {
				t.Errorf("P21.6: %s is made", brief(x))
			}
			n, err := refund.Rides(x)
			if n < 0 || n > c[0] || (err == api.OK) != refund.Done(x) {
				t.Errorf("P21.6: Rides(%s) = %d, %d", brief(x), n, err)
			}
			if err == api.OK {
				done++
			}
		}
		if done != c[0]+1 {
			t.Errorf("P21.6: %d refunds are done, want %d", done, c[0]+1)
		}
	}
}

// orders calls with all orders of a list.
func orders[T any](list []T, from int, call func([]T)) {
	if from == len(list) {
		call(list)
	}
	for i := from; i < len(list); i++ {
		list[from], list[i] = list[i], list[from]
		orders(list, from+1, call)
		list[from], list[i] = list[i], list[from]
	}
}

// collect is a refund with acknowledgements, one after the other.
func collect(t *testing.T, x api.Refund, acks [][2]int) api.Refund {
	t.Helper()
	for _, a := range acks {
		x = ack(t, x, a[0], a[1])
	}
	return x
}

// TestAllOrdersP21_6: the acknowledgements of four gates, one of them twice with unlike indexes and one just the same twice, in all orders, in one place and cut into two places that are joined.
func TestAllOrdersP21_6(t *testing.T) {
	acks := [][2]int{{1, 3}, {2, 0}, {3, 6}, {4, 2}, {4, 5}, {2, 0}}
	begun, want := begin(t, 7, 10, 4), with(7, 10, "xxxx", 6)
	orders(acks, 0, func(acks [][2]int) {
		if got := collect(t, begun, acks); !same(got, want) {
			t.Fatalf("P21.6: the acknowledgements %v come to %s", acks, brief(got))
		}
		for cut := range len(acks) + 1 {
			here, there := collect(t, begun, acks[:cut]), collect(t, begun, acks[cut:])
			if both := join(t, here, there); !same(both, want) {
				t.Fatalf("P21.6: %v and %v come to %s", acks[:cut], acks[cut:], brief(both))
			}
		}
	})
	wantRides(t, want, 4, api.OK)
}

// drawAcks are acknowledgements of all gates, by chance, some of them twice and some gates with more than one index.
func drawAcks(r *rand.Rand, gates, rides int) [][2]int {
	var acks [][2]int
	for gate := 1; gate <= gates; gate++ {
		for range 1 + r.IntN(3) {
			acks = append(acks, [2]int{gate, r.IntN(rides + 1)})
		}
	}
	for range r.IntN(5) {
		acks = append(acks, acks[r.IntN(len(acks))])
	}
	r.Shuffle(len(acks), func(i, k int) { acks[i], acks[k] = acks[k], acks[i] })
	return acks
}

// wantPaid asks what is refunded once all have acknowledged: the rides less the greatest index, and with each index at most the rides less it.
func wantPaid(t *testing.T, x api.Refund, acks [][2]int) {
	t.Helper()
	n, err := refund.Rides(x)
	if err != api.OK || n < 0 || n > x.Rides {
		t.Fatalf("P21.6: Rides(%s) = %d, %d", brief(x), n, err)
	}
	least := x.Rides
	for _, a := range acks {
		least = min(least, x.Rides-a[1])
	}
	if n != least {
		t.Fatalf("P21.6: %d rides are refunded behind %v, want %d", n, acks, least)
	}
}

// TestByChanceP21_6: many acknowledgements in two orders, and in two places that are joined now and then; a gate that has not told holds the refund open.
func TestByChanceP21_6(t *testing.T) {
	r := chance(2)
	for range 400 {
		gates, rides := 1+r.IntN(api.MaxGates), 1+r.IntN(60)
		acks := drawAcks(r, gates, rides)
		begun := begin(t, 1+r.IntN(99), rides, gates)
		one := collect(t, begun, acks)
		wantPaid(t, one, acks)
		places := [2]api.Refund{begun, begun}
		for _, i := range r.Perm(len(acks)) {
			at := r.IntN(2)
			was := places[at]
			places[at] = ack(t, was, acks[i][0], acks[i][1])
			if r.IntN(4) == 0 {
				places[at] = join(t, places[at], places[1-at])
			}
			if !within(was, places[at]) {
				t.Fatalf("P21.6: of %s something is taken back: %s", brief(was), brief(places[at]))
			}
		}
		if both := join(t, places[0], places[1]); !same(both, one) {
			t.Fatalf("P21.6: two places come to %s, one to %s", brief(both), brief(one))
		}
		silent := 1 + r.IntN(gates)
		heard := slices.DeleteFunc(slices.Clone(acks), func(a [2]int) bool { return a[0] == silent })
		open := collect(t, begun, heard)
		wantMissing(t, open, silent)
		wantRides(t, open, 0, api.ErrOpen)
	}
}

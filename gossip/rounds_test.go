package gossip_test

import (
	"math"
	"slices"
	"testing"

	"farebox/api"
	"farebox/gossip"
	"farebox/table"
)

// TestRefusalsP20_4: meetings that name no gate, or one twice, alone, ahead of good ones and behind them.
func TestRefusalsP20_4(t *testing.T) {
	all := []api.GateState{knows(t, at(3, 1)), knows(t, at(4, 1)), state(t, floorAt(2), 3, at(3, 2))}
	for n := range len(all) + 1 {
		var bad, good [][2]int
		for _, x := range append([]int{n - 1, n, n + 1, 1<<32 + 1, 1<<32 + 2}, edges...) {
			for _, y := range append([]int{1, 2, n, n + 1}, edges...) {
				for _, m := range [][2]int{{x, y}, {y, x}} {
					if m[0] < 1 || m[0] > n || m[1] < 1 || m[1] > n || m[0] == m[1] {
						bad = append(bad, m)
					} else {
						good = append(good, m)
					}
				}
			}
		}
		if (len(good) > 0) != (n > 1) {
			t.Fatalf("%d gates: the good ones are %v", n, good)
		}
		for _, m := range good {
			wantRounds(t, "a good one", plenty, all[:n], m)
		}
		good = good[:min(len(good), 2)]
		for _, m := range bad {
			for _, list := range [][][2]int{{m}, append(slices.Clone(good), m), append([][2]int{m}, good...), slices.Concat(good, [][2]int{m}, good)} {
				if got, err := gossip.Rounds(keys(), plenty, all[:n], list); err != api.ErrArg || len(got) != 0 {
					t.Fatalf("P20.4: %d gates, the meetings %v: %s, %d", n, list, briefs(got), err)
				}
			}
		}
	}
}

// TestNoMeetingsP20_4: the states as they are, of no gates, one and more.
func TestNoMeetingsP20_4(t *testing.T) {
	all := []api.GateState{state(t, floorAt(2), 3, at(3, 2), unsigned(at(7, 1))), {}, state(t, api.Floor{Floor: 9}, 0, at(9, 1)), knows(t, at(3, 1))}
	for n := range len(all) + 1 {
		for _, none := range [][][2]int{nil, {}, make([][2]int, 0, 3)} {
			for _, rows := range append([]int{8}, edges...) {
				wantStates(t, "P20.4: no meetings", wantRounds(t, "no meetings", rows, all[:n], none...), all[:n])
			}
		}
	}
	for _, gates := range [][]api.GateState{nil, {}, all[:0]} {
		if got, err := gossip.Rounds(keys(), 8, gates, nil); err != api.OK || len(got) != 0 {
			t.Errorf("P20.4: no gates: %s, %d", briefs(got), err)
		}
		if got, err := gossip.Rounds(keys(), 8, gates, [][2]int{{1, 2}}); err != api.ErrArg || len(got) != 0 {
			t.Errorf("P20.4: no gates, and a meeting: %s, %d", briefs(got), err)
		}
	}
}

// TestMeetingP20_4: the second gate comes to know what the first one knows; the first one stays as it is, and so do all others.
func TestMeetingP20_4(t *testing.T) {
	a := state(t, floorAt(2), 5, at(3, 2), frozen(at(5, 1)), revoked(at(6, 0)))
	b := state(t, api.Floor{}, 7, at(1, 4), at(3, 4), revoked(at(5, 0)), at(8, 1))
	c := state(t, floorAt(9), 1, at(9, 1))
	both := state(t, floorAt(2), 7, at(3, 4), revoked(frozen(at(5, 1))), revoked(at(6, 0)), at(8, 1))
	got := wantRounds(t, "a meeting", plenty, []api.GateState{a, b, c}, [2]int{1, 2})
	wantStates(t, "P20.4: a meeting", got, []api.GateState{a, both, c})
	again := wantRounds(t, "once more", plenty, got, [2]int{1, 2}, [2]int{1, 2})
	wantStates(t, "P20.4: once more", again, got)
	back := wantRounds(t, "and back", plenty, []api.GateState{a, b, c}, [2]int{1, 2}, [2]int{2, 1})
	both.Accepted = 5
	wantState(t, "P20.4: and back", back[0], both)
	turned := wantRounds(t, "the other way round", plenty, []api.GateState{a, b, c}, [2]int{2, 1})
	wantStates(t, "P20.4: the other way round", turned, []api.GateState{state(t, floorAt(2), 5, at(3, 4), revoked(frozen(at(5, 1))), revoked(at(6, 0)), at(8, 1)), b, c})
}

// TestOneAfterTheOtherP20_4: what a gate has been told goes on with it into later meetings, and not into earlier ones.
func TestOneAfterTheOtherP20_4(t *testing.T) {
	gates := []api.GateState{state(t, floorAt(2), 0, at(3, 1)), knows(t, at(4, 1)), knows(t, at(1, 1))}
	on := wantRounds(t, "on and on", plenty, gates, [2]int{1, 2}, [2]int{2, 3})
	wantState(t, "P20.4: on and on", on[2], state(t, floorAt(2), 0, at(3, 1), at(4, 1)))
	late := wantRounds(t, "too late", plenty, gates, [2]int{2, 3}, [2]int{1, 2})
	wantState(t, "P20.4: too late", late[2], knows(t, at(1, 1), at(4, 1)))
}

// TestFloorP20_4: the first gate's floor is above, the same as and below the second's.
func TestFloorP20_4(t *testing.T) {
	rows := []api.Entry{at(2, 1), at(3, 1), at(4, 1), at(5, 1), at(6, 1)}
	for _, x := range []struct{ a, b int }{{0, 0}, {4, 0}, {4, 3}, {4, 4}, {4, 5}, {0, 4}, {7, 0}, {7, 6}, {0, 7}, {6, 7}, {65536, 4}, {4, 65536}} {
		var a, b api.Floor
		if x.a > 0 {
			a = floorAt(x.a)
		}
		if x.b > 0 {
			b = floorAt(x.b)
		}
		from := state(t, a, 1, rows...)
		for _, to := range []api.GateState{state(t, b, 2), state(t, b, 2, rows...), state(t, b, 2, at(3, 5), frozen(at(5, 0)))} {
			got := wantRounds(t, "floors", plenty, []api.GateState{from, to}, [2]int{1, 2})[1]
			if got.Floor.Floor != max(x.a, x.b) || got.Floor != a && got.Floor != b || got.Accepted != 2 {
				t.Errorf("P20.4: floors of %d and %d come to %s", x.a, x.b, brief(got))
			}
			for serial := 2; serial <= 6; serial++ {
				if _, there := table.Find(got, serial); there != (serial >= got.Floor.Floor) {
					t.Errorf("P20.4: floors of %d and %d come to %s", x.a, x.b, brief(got))
				}
			}
		}
	}
}

// TestSameFloorP20_4: of two floors with one number each gate keeps its own.
func TestSameFloorP20_4(t *testing.T) {
	mine, theirs := floorAt(3), floorAt(3)
	for _, first := range []byte{0, 255} {
		theirs.Sig[0] = first
		gates := []api.GateState{state(t, mine, 0, at(3, 1)), state(t, theirs, 0, at(4, 1))}
		got := wantRounds(t, "the same number", plenty, gates, [2]int{1, 2}, [2]int{2, 1})
		if got[0].Floor != mine || got[1].Floor != theirs || len(got[0].Rows) != 2 || len(got[1].Rows) != 2 {
			t.Errorf("P20.4: the same number: %s", briefs(got))
		}
	}
}

// TestRefusedFloorP20_4: a floor that gate.Raise refuses leaves the second gate as it is; what is lacking to it is told all the same.
func TestRefusedFloorP20_4(t *testing.T) {
	turned := floorAt(4)
	turned.Sig[63] ^= 1
	wrong := api.Floor{Floor: 5, Sig: floorAt(4).Sig}
	for _, f := range []api.Floor{turned, wrong, {Floor: 4}, {Floor: 65537}, {Floor: math.MaxInt}} {
		from := state(t, f, 0, at(3, 1), at(6, 2), frozen(at(7, 1)))
		to := state(t, floorAt(2), 9, at(2, 1), at(3, 2), at(6, 1))
		got := wantRounds(t, "a refused floor", plenty, []api.GateState{from, to}, [2]int{1, 2})[1]
		want := to
		if f.Floor <= 6 {
			want = state(t, floorAt(2), 9, at(2, 1), at(3, 2), at(6, 2), frozen(at(7, 1)))
		}
		wantState(t, "P20.4: a refused floor", got, want)
	}
}

// TestFloorFirstP20_4: the floor is raised ahead of what is lacking: the rows that it drops make room.
func TestFloorFirstP20_4(t *testing.T) {
	from := state(t, floorAt(5), 0, at(5, 1), at(6, 1), at(7, 1))
	to := knows(t, at(1, 1), at(2, 1), at(5, 2))
	got := wantRounds(t, "room by a floor", 3, []api.GateState{from, to}, [2]int{1, 2})[1]
	wantState(t, "P20.4: room by a floor", got, state(t, floorAt(5), 0, at(5, 2), at(6, 1), at(7, 1)))
	from.Floor = api.Floor{Floor: 5}
	got = wantRounds(t, "no room: the floor is refused", 3, []api.GateState{from, to}, [2]int{1, 2})[1]
	wantState(t, "P20.4: no room: the floor is refused", got, to)
}

// TestNoRoomP20_4: where there is not room enough the first rows are taken, in their order, and rows that are there are joined; nothing is lost.
func TestNoRoomP20_4(t *testing.T) {
	from := knows(t, at(1, 1), frozen(at(3, 2)), at(5, 1), at(7, 1), at(9, 3))
	to := knows(t, at(3, 1), at(6, 1), at(9, 1))
	for rows, serials := range map[int][]int{
		-1: {3, 6, 9}, 0: {3, 6, 9}, 2: {3, 6, 9}, 3: {3, 6, 9}, 4: {1, 3, 6, 9}, 5: {1, 3, 5, 6, 9}, 6: {1, 3, 5, 6, 7, 9}, 7: {1, 3, 5, 6, 7, 9},
	} {
		got := wantRounds(t, "a bound", rows, []api.GateState{from, to}, [2]int{1, 2})[1]
		var want []api.Entry
		for _, serial := range serials {
			e, there := table.Find(from, serial)
			if !there {
				e, _ = table.Find(to, serial)
			}
			want = append(want, e)
		}
		wantState(t, "P20.4: a bound", got, knows(t, want...))
	}
}

// TestRefusedRowsP20_4: rows that gate.Learn refuses are passed over, and the others are taken; under another ring nothing is.
func TestRefusedRowsP20_4(t *testing.T) {
	from := knows(t, unsigned(at(2, 1)), at(3, 1), other(4, 5), strayed(at(5, 3)), frozen(at(6, 1)))
	to := state(t, api.Floor{}, 2, at(3, 0), at(4, 1))
	gates := []api.GateState{from, to}
	got := wantRounds(t, "refused rows", plenty, gates, [2]int{1, 2})
	wantStates(t, "P20.4: refused rows", got, []api.GateState{from, state(t, api.Floor{}, 2, at(3, 1), at(4, 1), frozen(at(6, 1)))})
	gates[0].Floor = floorAt(1)
	got, err := gossip.Rounds(api.Ring{Issuer: keys().Gates[1]}, plenty, gates, [][2]int{{1, 2}})
	if err != api.OK {
		t.Errorf("P20.4: another ring: %d", err)
	}
	wantStates(t, "P20.4: another ring", got, gates)
}

// TestNotLackingP20_4: what is not lacking is not told: a flag that the second gate has with another signature, and an index that it has with another value, stay as they are there, also where the first gate's are the greater.
func TestNotLackingP20_4(t *testing.T) {
	ice, retired, marked := frozen(at(3, 2)), revoked(at(4, 1)), at(5, 3)
	for _, b := range []byte{0, 255} {
		for i := range ice.Freeze {
			ice.Freeze[i], retired.Revoke[i], marked.Value[i%32] = b, b, b
		}
		to := knows(t, ice, retired, marked)
		for _, from := range []api.GateState{knows(t, frozen(at(3, 2)), revoked(at(4, 1)), at(5, 3)), knows(t, frozen(at(3, 1)), revoked(at(4, 0)), at(5, 2))} {
			got := wantRounds(t, "nothing is lacking", plenty, []api.GateState{from, to}, [2]int{1, 2})[1]
			wantState(t, "P20.4: nothing is lacking", got, to)
		}
	}
}

// TestByChanceP20_4: gates and meetings by chance, with refused floors and rows among them and bounds that are reached, against the model.
func TestByChanceP20_4(t *testing.T) {
	r := chance(4)
	for range 80 {
		var gates []api.GateState
		for range 2 + r.IntN(4) {
			var rows []api.Entry
			for serial := 1; serial <= 8; serial++ {
				switch r.IntN(8) {
				case 0:
					rows = append(rows, unsigned(at(serial, 1)))
				case 1:
					rows = append(rows, other(serial, r.IntN(6)))
				case 2, 3, 4:
					rows = append(rows, drawEntry(r, serial))
				}
			}
			f := floorAt(1 + r.IntN(6))
			switch r.IntN(4) {
			case 0:
				f = api.Floor{}
			case 1:
				f.Sig[r.IntN(64)] ^= 1
			}
			gates = append(gates, state(t, f, r.IntN(9), rows...))
		}
		var meetings [][2]int
		for range r.IntN(9) {
			a, b := r.IntN(len(gates)), r.IntN(len(gates)-1)
			if b >= a {
				b++
			}
			meetings = append(meetings, [2]int{a + 1, b + 1})
		}
		wantRounds(t, "by chance", 3+r.IntN(7), gates, meetings...)
	}
}

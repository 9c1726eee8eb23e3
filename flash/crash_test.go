package flash_test

import (
	"math"
	"testing"

	"farebox/api"
	"farebox/flash"
)

// TestArmRangeP12_5: which numbers are refused.
func TestArmRangeP12_5(t *testing.T) {
	afters := []int{0, 1, 2, 1000000, 1000001, -1, 1 << 32, 1<<32 + 1, math.MaxInt, math.MinInt, math.MinInt + 1}
	keeps := []int{-1, 0, 1, 1048575, 1048576, 1048577, 1 << 32, math.MaxInt, math.MinInt}
	for _, after := range afters {
		for _, keep := range keeps {
			p := pairOf(t, 4, "a", "b")
			p.arm(after, keep)
			for range 3 {
				p.append(0, "c")
				p.restart()
			}
		}
	}
}

// TestArmedP12_5: MaxArmed crashes may wait; a refused one leaves the queue as it was, and numbers out of range are named first.
func TestArmedP12_5(t *testing.T) {
	p := pairOf(t, 1000, "", "")
	for i := range 64 {
		p.arm(1, i)
	}
	wantErr(t, "one more", p.f.Arm(1, 0), api.ErrLong)
	wantErr(t, "one more, with numbers out of range", p.f.Arm(0, 0), api.ErrArg)
	wantErr(t, "one more, with numbers out of range", p.f.Arm(1, 1048577), api.ErrArg)
	p.append(0, "ab")
	p.arm(2, 1)
	wantErr(t, "one more", p.f.Arm(1, 0), api.ErrLong)
	for range 70 {
		p.restart()
		p.append(1, "0123456789")
	}
	if p.f.Down() || len(p.m.queue) != 0 {
		t.Errorf("a crash waits that should have come to pass")
	}
	for range 65 {
		p.arm(1000000, 1048576)
	}
	p.disarm()
	for range 65 {
		p.arm(1, 3)
	}
	p.disarm()
	p.append(0, "cd")
}

// TestAfterP12_5: a crash comes to pass at just the write that its after says, at MaxAfter too.
func TestAfterP12_5(t *testing.T) {
	for _, after := range []int{1, 2, 3, 10, 1000000} {
		f := flash.New(2)
		wantErr(t, "Append ahead of Arm", f.Append(0, nil), api.OK)
		wantErr(t, "Arm", f.Arm(after, 1), api.OK)
		for i := range after - 1 {
			if err := f.Append(i%2, nil); err != api.OK {
				t.Fatalf("after %d: write %d answers %d", after, i+1, err)
			}
		}
		wantErr(t, "the write", f.Append(1, []byte("ab")), api.ErrDown)
		wantFiles(t, "the write", f, "", "a")
		if f.Writes() != after+1 {
			t.Errorf("after %d: %d writes", after, f.Writes())
		}
		wantErr(t, "Restart", f.Restart(), api.OK)
		wantErr(t, "the crash has left the queue", f.Append(1, []byte("b")), api.OK)
	}
}

// TestQueueP12_5: the second crash counts from when the first came to pass, not from its arming.
func TestQueueP12_5(t *testing.T) {
	p := pairOf(t, 100, "", "")
	p.arm(3, 1)
	p.append(0, "ab")
	p.arm(2, 2)
	p.append(1, "cd")
	p.append(0, "efg")
	wantFiles(t, "the first crash", p.f, "abe", "cd")
	p.restart()
	p.append(0, "hij")
	if p.f.Down() {
		t.Error("the second crash has counted the first one's write")
	}
	p.append(1, "klm")
	wantFiles(t, "the second crash", p.f, "abehij", "cdkl")
	p.restart()
	for range 5 {
		p.append(0, "n")
	}
}

// TestQueueIsAQueueP12_5: crashes come to pass in the order in which they were armed, whatever their numbers.
func TestQueueIsAQueueP12_5(t *testing.T) {
	for n := range uint64(100) {
		r := chance(5000 + n)
		p := pairOf(t, 400, "", "")
		for range 8 {
			p.arm(1+r.IntN(5), r.IntN(8))
			if r.IntN(3) == 0 {
				p.append(r.IntN(2), string(drawn(r, 5)))
			}
		}
		for len(p.m.queue) > 0 {
			p.append(r.IntN(2), string(drawn(r, r.IntN(6))))
			if r.IntN(6) == 0 {
				p.erase(r.IntN(2))
			}
			p.restart()
		}
	}
}

// TestArmedWhileDownP12_5: a crash that is armed while the flash is down counts the writes behind the Restart.
func TestArmedWhileDownP12_5(t *testing.T) {
	p := pairOf(t, 50, "", "")
	p.arm(1, 0)
	p.append(0, "ab")
	p.arm(2, 1)
	p.arm(1, 2)
	p.append(0, "refused")
	p.erase(1)
	p.restart()
	p.append(0, "cd")
	if p.f.Down() {
		t.Error("a refused write was counted")
	}
	p.append(0, "ef")
	wantFiles(t, "the crash that was armed while down", p.f, "cde", "")
	p.restart()
	p.append(0, "ghi")
	wantFiles(t, "the one behind it", p.f, "cdegh", "")
}

// TestDisarmP12_5: no crash waits behind it, and a new one counts anew; the flash stays up or down.
func TestDisarmP12_5(t *testing.T) {
	p := pairOf(t, 50, "", "")
	p.disarm()
	p.arm(2, 0)
	p.arm(1, 0)
	p.append(0, "a")
	p.disarm()
	p.append(0, "b")
	p.append(0, "c")
	p.arm(2, 0)
	p.append(0, "d")
	if p.f.Down() {
		t.Error("the new crash has counted what the old one had counted")
	}
	p.append(0, "e")
	p.arm(1, 0)
	p.disarm()
	if !p.f.Down() {
		t.Error("Disarm has brought the flash up")
	}
	p.restart()
	p.append(0, "f")
	wantFiles(t, "behind Disarm", p.f, "abcdf", "")
}

// TestRefusedAreNoWritesP12_6: what is refused is not counted, neither by Writes nor by a crash.
func TestRefusedAreNoWritesP12_6(t *testing.T) {
	p := pairOf(t, 3, "ab", "")
	p.arm(2, 0)
	for range 4 {
		p.append(0, "cd")
		p.append(2, "")
		p.append(-1, "e")
		p.erase(2)
		p.erase(-1)
		p.arm(0, 0)
		p.restart()
	}
	if p.f.Writes() != 0 || p.f.Down() {
		t.Errorf("%d writes, down %v", p.f.Writes(), p.f.Down())
	}
	p.append(1, "")
	p.erase(1)
	if p.f.Writes() != 2 || !p.f.Down() {
		t.Errorf("an Append of nothing and an Erase of an empty bank: %d writes, down %v", p.f.Writes(), p.f.Down())
	}
}

// TestRestartP12_6: one that is up is refused; one that is down comes up with its banks and its crashes.
func TestRestartP12_6(t *testing.T) {
	p := pairOf(t, 9, "ab", "c")
	wantErr(t, "Restart of one that is up", p.f.Restart(), api.ErrUp)
	p.arm(1, 1)
	p.arm(1, 0)
	p.restart()
	p.erase(0)
	wantFiles(t, "down", p.f, "\xffb", "c")
	wantErr(t, "Restart of one that is down", p.f.Restart(), p.m.restart())
	wantSame(t, "up again", p.f, p.m)
	wantErr(t, "Restart once more", p.f.Restart(), api.ErrUp)
	p.append(1, "d")
	if !p.f.Down() {
		t.Error("the crash that waited is gone")
	}
	wantFiles(t, "down", p.f, "\xffb", "c")
	if p.f.Writes() != 2 {
		t.Errorf("Writes = %d, want 2", p.f.Writes())
	}
}

// TestOrderOfErrorsP12: of several faults of one call the one that the chapter names first is answered.
func TestOrderOfErrorsP12(t *testing.T) {
	f := flash.Load(2, []byte("ab"), []byte("cd"))
	wantErr(t, "no bank, no room", f.Append(2, []byte("x")), api.ErrBank)
	f.Arm(1, 0)
	wantErr(t, "full ahead of the crash", f.Append(0, []byte("x")), api.ErrFull)
	f.Append(0, nil)
	wantErr(t, "no bank, down, no room", f.Append(-1, []byte("x")), api.ErrBank)
	wantErr(t, "down, no room", f.Append(0, []byte("x")), api.ErrDown)
	wantErr(t, "no bank, down", f.Erase(2), api.ErrBank)
	if _, err := f.Read(2); err != api.ErrBank {
		t.Errorf("Read: no bank, down: %d", err)
	}
	if _, err := f.Room(-1); err != api.ErrBank {
		t.Errorf("Room: no bank, down: %d", err)
	}
	for range 64 {
		f.Arm(1, 0)
	}
	wantErr(t, "out of range, too many", f.Arm(1000001, -1), api.ErrArg)
	wantErr(t, "too many", f.Arm(1000000, 1048576), api.ErrLong)
}

// TestFollowsP12_7: what an Append and an Erase leave of either bank, whether they are cut off or not.
func TestFollowsP12_7(t *testing.T) {
	for n := range uint64(3000) {
		r := chance(9000 + n)
		held := [2]string{string(drawn(r, r.IntN(20))), string(drawn(r, r.IntN(20)))}
		f := flash.Load(40, []byte(held[0]), []byte(held[1]))
		if r.IntN(3) > 0 {
			f.Arm(1, r.IntN(25))
		}
		bank, b := r.IntN(2), drawn(r, r.IntN(20))
		if r.IntN(2) == 0 {
			appended(t, f, bank, held, b)
		} else {
			emptied(t, f, bank, held)
		}
	}
}

// appended asks that an Append adds some beginning of its bytes, and all of them if it answers OK.
func appended(t *testing.T, f *flash.Flash, bank int, held [2]string, b []byte) {
	t.Helper()
	err, got := f.Append(bank, b), filesOf(f)
	if got[1-bank] != held[1-bank] {
		t.Errorf("Append has changed the other bank")
	}
	n := len(got[bank]) - len(held[bank])
	if n < 0 || n > len(b) || got[bank] != held[bank]+string(b[:n]) || err == api.OK && n < len(b) {
		t.Errorf("Append(%q) = %d has made %q of %q", b, err, got[bank], held[bank])
	}
}

// emptied asks that an Erase leaves a bank empty, or the same but for a beginning that is 0xFF.
func emptied(t *testing.T, f *flash.Flash, bank int, held [2]string) {
	t.Helper()
	err, got := f.Erase(bank), filesOf(f)
	if got[1-bank] != held[1-bank] {
		t.Errorf("Erase has changed the other bank")
	}
	if got[bank] == "" {
		return
	}
	n := 0
	for n < len(got[bank]) && got[bank][n] == 0xFF {
		n++
	}
	if err == api.OK || len(got[bank]) != len(held[bank]) || got[bank][n:] != held[bank][n:] {
		t.Errorf("Erase = %d has made %q of %q", err, got[bank], held[bank])
	}
}

func filesOf(f *flash.Flash) [2]string {
	first, second := f.Files()
	return [2]string{string(first), string(second)}
}

// TestLoadedGoesOnP12_7: a flash that is loaded with what Files told goes on as the one that told it.
func TestLoadedGoesOnP12_7(t *testing.T) {
	for n := range uint64(200) {
		r := chance(20000 + n)
		size := r.IntN(50)
		p := pairOf(t, size, string(drawn(r, 10)), "")
		for range 30 {
			p.step(r)
		}
		first, second := p.f.Files()
		if p.f.Down() {
			p.restart()
		}
		p.disarm()
		q := &pair{t, flash.Load(size, first, second), p.m}
		q.m.writes, q.m.since = 0, 0
		told := p.f.Writes()
		for range 30 {
			q.step(r)
		}
		if p.f.Writes() != told || p.f.Down() {
			t.Errorf("the flash that told has heard of the other")
		}
	}
}

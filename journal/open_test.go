package journal_test

import (
	"testing"

	"farebox/api"
	"farebox/flash"
	"farebox/journal"
)

// TestHeadedP14_2: which banks are headed, alone and as the other bank of one that is; what is not headed is as if it were not there.
func TestHeadedP14_2(t *testing.T) {
	for _, c := range []struct {
		bank    string
		headed  bool
		records int
	}{
		{"", false, 0}, {"x", false, 0}, {"\x00", false, 0}, {"\xff\xff", false, 0}, {"\xa5", false, 0}, {framed(82, "record"), false, 0},
		{headed(9, 0, ""), true, 0}, {headed(9, 0, "snap"), true, 0}, {bankOf(9, 0, "s", "a", "b"), true, 2},
		{headed(0, 0, "s"), false, 0}, {headed(1, 0, "s"), true, 0}, {headed(last-1, 0, "s"), true, 0}, {headed(last, 0, "s"), true, 0}, {headed(last+1, 0, "s"), false, 0}, {headed(1<<64-1, 0, "s"), false, 0},
		{bankOf(9, 1, "s"), false, 0}, {bankOf(9, 1, "s", "a"), true, 1}, {bankOf(9, 1, "s", "a", "b"), true, 2}, {bankOf(9, 3, "s", "a", "b"), false, 0}, {bankOf(9, 3, "s", "a", "b", ""), true, 3},
		{bankOf(9, 1<<8, "s", "a"), false, 0}, {bankOf(9, 1<<24, "s", "a"), false, 0}, {bankOf(9, 1<<31, "s", "a"), false, 0}, {bankOf(9, 1<<32-1, "s", "a"), false, 0},
		{framed(72, ""), false, 0}, {framed(72, "\x00\x00\x00\x00\x00\x00\x00\x09\x00\x00\x00"), false, 0}, {framed(72, "\x00\x00\x00\x00\x00\x00\x00\x09\x00\x00\x00\x00"), true, 0},
		{framed(73, "\x00\x00\x00\x00\x00\x00\x00\x09\x00\x00\x00\x00"), false, 0}, {framed(104, "\x00\x00\x00\x00\x00\x00\x00\x09\x00\x00\x00\x00"), false, 0}, {framed(82, "") + headed(9, 0, "s"), false, 0},
		{"x" + headed(9, 0, "s"), false, 0}, {headed(9, 0, "s")[:22], false, 0}, {headed(9, 0, "s")[1:], false, 0},
	} {
		k, isHeaded := look(c.bank)
		if isHeaded != c.headed || len(k.records) != c.records {
			t.Fatalf("the model: %q is headed: %v, with %d records", c.bank, isHeaded, len(k.records))
		}
		for side := range 2 {
			for _, other := range []string{"", "spoilt", bankOf(4, 1, "less")} {
				wantBank(t, side, c.bank, other, c.headed)
			}
		}
		wantPreferred(t, c.bank, k, isHeaded)
	}
}

// wantBank asks that Open finds what the bank says if it is headed, and nothing if it is not; the other bank is none.
func wantBank(t *testing.T, side int, bank, other string, isHeaded bool) {
	t.Helper()
	banks := [2]string{bank, other}
	if side == 1 {
		banks = [2]string{other, bank}
	}
	f := flash.Load(200, []byte(banks[0]), []byte(banks[1]))
	if isHeaded {
		k, _ := look(bank)
		opened(t, f, k.epoch, 0, k.snapshot, k.records...)
		banks[1-side] = ""
		wantFiles(t, "P14.2: opened", f, banks)
		return
	}
	unwritten(t, "P14.2: Open", f, api.ErrBlank, func() api.Errno {
		j, found, err := journal.Open(f)
		if j != nil || !zeroRecovered(found) {
			t.Errorf("P14.2: Open = %v, %+v", j, found)
		}
		return err
	})
}

// wantPreferred asks which of two banks is the journal's; the other one is headed with the epoch 4.
func wantPreferred(t *testing.T, b string, k bank, isHeaded bool) {
	t.Helper()
	four := bankOf(4, 0, "four", "r")
	for side := range 2 {
		banks := [2]string{four, b}
		if side == 1 {
			banks = [2]string{b, four}
		}
		f := flash.Load(200, []byte(banks[0]), []byte(banks[1]))
		if isHeaded && k.epoch > 4 {
			opened(t, f, k.epoch, 0, k.snapshot, k.records...)
		} else {
			opened(t, f, 4, 0, "four", "r")
		}
	}
}

// TestTwoHeadedP14_2: of two headed banks that with the greater epoch, as a number, and of one epoch bank 0.
func TestTwoHeadedP14_2(t *testing.T) {
	epochs := []uint64{1, 2, 3, 255, 256, 257, 1<<31 - 1, 1 << 31, 1<<32 - 1, 1 << 32, 1<<32 + 1, 1<<62 + 1, last - 1, last}
	for i, one := range epochs {
		for k, two := range epochs {
			first, second := bankOf(one, 0, "first", "a", "b"), bankOf(two, 1, "second", "c")
			f := flash.Load(100, []byte(first), []byte(second))
			if i >= k {
				opened(t, f, one, 0, "first", "a", "b")
				wantFiles(t, "P14.2: bank 0", f, [2]string{first, ""})
			} else {
				opened(t, f, two, 0, "second", "c")
				wantFiles(t, "P14.2: bank 1", f, [2]string{"", second})
			}
			if f.Writes() != 1 {
				t.Errorf("P14.2: Open has made %d writes", f.Writes())
			}
		}
	}
}

// tails are what may stand behind a good part: frames that are not whole, of every sort, and whole ones of another kind.
func tails() map[string]string {
	whole := framed(82, "cut off")
	turned := []byte(whole)
	turned[8] ^= 1
	return map[string]string{
		"a byte 0xFF":                  "\xff",
		"a byte 0":                     "\x00",
		"a mark alone":                 "\xa5",
		"a beginning of a frame":       whole[:5],
		"a frame without its end":      whole[:len(whole)-1],
		"a frame with a turned bit":    string(turned),
		"a length above MaxPayload":    "\xa5R\x00\x04\x00\x01 and so on",
		"a length without end":         "\xa5R\xff\xff\xff\xff and so on",
		"a header":                     headed(7, 0, ""),
		"a header and a record":        bankOf(8, 0, "s", "r"),
		"a whole frame of kind 0":      framed(0, "other"),
		"a whole frame of kind S":      framed(83, ""),
		"a record behind another kind": framed(81, "") + whole,
		"a record behind a bad byte":   "x" + whole,
		"a record behind a turned bit": string(turned) + whole,
		"a record behind 0xFF":         "\xff\xff\xff\xff" + whole,
	}
}

// TestTailP14_2: behind each sort of tail the good part is brought to the other bank by one write, and the bank with the tail is empty.
func TestTailP14_2(t *testing.T) {
	goods := []bank{{epoch: 6, snapshot: ""}, {epoch: 6, snapshot: "snap"}, {epoch: 2, snapshot: "s", records: []string{"a"}}, {epoch: last - 1, snapshot: "s", records: []string{"", "b", "", "ccc"}}, {epoch: 255, records: []string{"", ""}}}
	others := []string{"", "x", "\xff\xff", bankOf(1, 1, "not headed"), bankOf(1, 0, "an older journal")}
	for name, tail := range tails() {
		for _, k := range goods {
			for number := range len(k.records) + 1 {
				for _, other := range others {
					b := bankOf(k.epoch, uint32(number), k.snapshot, k.records...) + tail
					wantMoved(t, name, k, [2]string{b, other}, 0, len(tail))
					wantMoved(t, name, k, [2]string{other, b}, 1, len(tail))
				}
			}
		}
	}
}

// wantMoved asks what Open makes of banks of which the one of that side is the journal's, and has a tail.
func wantMoved(t *testing.T, name string, k bank, banks [2]string, side, cut int) {
	t.Helper()
	writes := 2
	if banks[1-side] != "" {
		writes = 3
	}
	f := flash.Load(300, []byte(banks[0]), []byte(banks[1]))
	j := opened(t, f, k.epoch+1, cut, k.snapshot, k.records...)
	var want [2]string
	want[1-side] = bankOf(k.epoch+1, uint32(len(k.records)), k.snapshot, k.records...)
	wantFiles(t, "P14.2: moved: "+name, f, want)
	wantNumbers(t, "moved: "+name, j, 300-len(want[1-side]), int(k.epoch+1), len(k.records))
	if f.Writes() != writes {
		t.Errorf("P14.2: %s: Open has made %d writes, want %d", name, f.Writes(), writes)
	}
	wantErr(t, "P14.3: it goes on", j.Append([]byte("on")), api.OK)
	opened(t, f, k.epoch+1, 0, k.snapshot, append(k.records[:len(k.records):len(k.records)], "on")...)
}

// TestTailAtTheLastEpochP14_2: no epoch is left to move to; nothing is written, whatever the other bank holds.
func TestTailAtTheLastEpochP14_2(t *testing.T) {
	for name, tail := range tails() {
		for _, other := range []string{"", "x", bankOf(last-1, 0, "older")} {
			b := bankOf(last, 0, "s", "a") + tail
			for _, f := range []*flash.Flash{flash.Load(200, []byte(b), []byte(other)), flash.Load(200, []byte(other), []byte(b))} {
				unwritten(t, "P14.2: Open: "+name, f, api.ErrRange, func() api.Errno {
					j, found, err := journal.Open(f)
					if j != nil || !zeroRecovered(found) {
						t.Errorf("P14.2: Open = %v, %+v", j, found)
					}
					return err
				})
			}
		}
	}
}

// TestFullP14_2: a good part that fills its bank, and one with a tail that fills it.
func TestFullP14_2(t *testing.T) {
	full := bankOf(3, 0, "s", text(57))
	size := len(full)
	f := flash.Load(size, []byte(full), []byte("x"))
	j := opened(t, f, 3, 0, "s", text(57))
	wantNumbers(t, "full", j, 0, 3, 1)
	wantErr(t, "P14.5: Keep", j.Keep([]byte("r"), []byte("t")), api.OK)
	opened(t, f, 4, 0, "t", "r")

	for cut := 1; cut < 12; cut++ {
		b := bankOf(3, 0, "s", text(57-cut)) + text(cut)
		f := flash.Load(size, []byte(b), []byte(text(size)))
		j := opened(t, f, 4, cut, "s", text(57-cut))
		wantNumbers(t, "a tail to the last byte", j, cut, 4, 1)
		wantFiles(t, "P14.2: moved", f, [2]string{"", bankOf(4, 1, "s", text(57-cut))})
	}
}

// TestOpenAgainP14_8: an Open behind an Open finds the same, without a tail, and writes nothing.
func TestOpenAgainP14_8(t *testing.T) {
	n := 0
	for i := range uint64(4000) {
		r := chance(50000 + i)
		f := flash.Load(300, []byte(mixture(r)), []byte(mixture(r)))
		_, first, err := journal.Open(f)
		if err != api.OK {
			continue
		}
		n++
		again(t, f, first)
	}
	if n < 1000 {
		t.Errorf("%d journals alone were found", n)
	}
}

// again opens a flash behind an Open that has found this.
func again(t *testing.T, f *flash.Flash, first api.Recovered) {
	t.Helper()
	first.Cut = 0
	for range 2 {
		unwritten(t, "P14.8: Open again", f, api.OK, func() api.Errno {
			j, found, err := journal.Open(f)
			if j == nil || !sameRecovered(found, first) {
				t.Errorf("P14.8: Open again has found %+v, ahead of it %+v", found, first)
			}
			return err
		})
	}
}

// TestImagesP14_2: banks by chance, each answer and what is written held against the model.
func TestImagesP14_2(t *testing.T) {
	seen := map[api.Errno]int{}
	moved := 0
	for i := range uint64(6000) {
		r := chance(100000 + i)
		p := pairOf(t, 300, mixture(r), mixture(r))
		_, _, err := modelOpen(flash.Load(300, []byte(filesOf(p.f)[0]), []byte(filesOf(p.f)[1])), 300)
		seen[err]++
		p.open()
		if p.f.Writes() >= 2 {
			moved++
		}
		if p.j != nil {
			p.keep(drawn(r, r.IntN(300)), drawn(r, r.IntN(100)))
			p.append("")
			p.open()
		}
	}
	if seen[api.OK] < 1000 || seen[api.ErrBlank] < 500 || seen[api.ErrRange] < 20 || moved < 500 {
		t.Errorf("the images are too much alike: %v, %d moved", seen, moved)
	}
}

package journal_test

import (
	"strings"
	"testing"

	"farebox/api"
	"farebox/flash"
	"farebox/journal"
)

// text is n bytes.
func text(n int) string { return strings.Repeat("x", n) }

// opened is Open's Journal; it must find this.
func opened(t *testing.T, f *flash.Flash, epoch uint64, cut int, snapshot string, records ...string) *journal.Journal {
	t.Helper()
	j, found, err := journal.Open(f)
	if err != api.OK || j == nil {
		t.Fatalf("P14.2: Open = %d", err)
	}
	if !sameRecovered(found, recovered(epoch, snapshot, records, cut)) {
		t.Fatalf("P14.2: Open has found Epoch %d, Snapshot %q, %d records %.60q, Cut %d, want %d, %q, %d, %d", found.Epoch, short(string(found.Snapshot)), len(found.Records), found.Records, found.Cut, epoch, short(snapshot), len(records), cut)
	}
	if j.Epoch() != int(epoch) || j.Count() != len(records) {
		t.Errorf("P14.6: Epoch %d, Count %d, want %d, %d", j.Epoch(), j.Count(), epoch, len(records))
	}
	return j
}

// begun is a new flash with a journal of this snapshot and these records, which is open.
func begun(t *testing.T, size int, snapshot string, records ...string) (*flash.Flash, *journal.Journal) {
	t.Helper()
	f := flash.New(size)
	wantErr(t, "P14.1: Format", journal.Format(f, []byte(snapshot)), api.OK)
	j := opened(t, f, 1, 0, snapshot)
	for _, r := range records {
		wantErr(t, "P14.3: Append", j.Append([]byte(r)), api.OK)
	}
	return f, j
}

// unwritten asks that a call writes nothing, and answers this.
func unwritten(t *testing.T, what string, f *flash.Flash, want api.Errno, call func() api.Errno) {
	t.Helper()
	writes, files, down := f.Writes(), filesOf(f), f.Down()
	wantErr(t, what, call(), want)
	if f.Writes() != writes || f.Down() != down {
		t.Errorf("P14.9: %s has made %d writes", what, f.Writes()-writes)
	}
	wantFiles(t, "P14.9: "+what, f, files)
}

// TestExamplesP14: the chapter's table, row by row.
func TestExamplesP14(t *testing.T) {
	f := flash.New(512)
	j, found, err := journal.Open(f)
	if j != nil || !zeroRecovered(found) || err != api.ErrBlank {
		t.Errorf("P14.2: Open of a new flash = %v, %+v, %d", j, found, err)
	}
	f, j = begun(t, 512, "s")
	wantNumbers(t, "formatted", j, 489, 1, 0)
	wantErr(t, "Append", j.Append([]byte("abc")), api.OK)
	wantNumbers(t, "appended", j, 476, 1, 1)
	unwritten(t, "Append of 467 bytes", f, api.ErrFull, func() api.Errno { return j.Append(make([]byte, 467)) })
	g, k := begun(t, 512, "s", "abc")
	wantErr(t, "Append of 466 bytes", k.Append(make([]byte, 466)), api.OK)
	wantNumbers(t, "filled", k, 0, 1, 2)
	wantFiles(t, "filled", g, [2]string{bankOf(1, 0, "s", "abc", string(make([]byte, 466)))})

	f.Arm(1, 5)
	wantErr(t, "Append into a crash", j.Append([]byte("xyz")), api.ErrDown)
	wantErr(t, "Append once more", j.Append([]byte("xyz")), api.ErrDown)
	f.Restart()
	j = opened(t, f, 2, 5, "s", "abc")
	wantFiles(t, "moved", f, [2]string{"", bankOf(2, 1, "s", "abc")})
	if second := filesOf(f)[1]; len(second) != 36 {
		t.Errorf("the second bank has %d bytes", len(second))
	}
	j = opened(t, f, 2, 0, "s", "abc")
	wantErr(t, "Compact", j.Compact([]byte("t")), api.OK)
	wantNumbers(t, "compacted", j, 489, 3, 0)
}

// TestExamplesKeepP14_5: the table's rows of Keep.
func TestExamplesKeepP14_5(t *testing.T) {
	f, j := begun(t, 512, "s", text(468))
	wantNumbers(t, "eleven bytes are left", j, 11, 1, 1)
	wantErr(t, "Keep", j.Keep([]byte("r"), []byte("u")), api.OK)
	wantNumbers(t, "kept", j, 0, 1, 2)
	wantFiles(t, "kept", f, [2]string{bankOf(1, 0, "s", text(468), "r")})

	f, j = begun(t, 512, "s", text(469))
	wantNumbers(t, "ten bytes are left", j, 10, 1, 1)
	wantErr(t, "Keep", j.Keep([]byte("r"), []byte("u")), api.OK)
	wantNumbers(t, "kept", j, 478, 2, 1)
	wantFiles(t, "kept", f, [2]string{bankOf(1, 0, "s", text(469)), bankOf(2, 0, "u", "r")})

	f, j = begun(t, 512, "s", text(379))
	wantNumbers(t, "a hundred bytes are left", j, 100, 1, 1)
	unwritten(t, "Keep of 480 bytes", f, api.ErrFull, func() api.Errno { return j.Keep(make([]byte, 480), []byte("u")) })
	wantErr(t, "Keep of 479 bytes", j.Keep(make([]byte, 479), []byte("u")), api.OK)
	wantNumbers(t, "kept", j, 0, 2, 1)
	opened(t, f, 2, 0, "u", string(make([]byte, 479)))
}

// TestFormatP14_1: what is erased, and what is appended, whatever was there.
func TestFormatP14_1(t *testing.T) {
	banks := []string{"", "x", "\xff", text(200), bankOf(9, 0, "old", "a", "b"), bankOf(last, 0, ""), bankOf(3, 2, "s", "a")}
	for _, first := range banks {
		for _, second := range banks {
			for _, snapshot := range []string{"", "s", text(178)} {
				p := pairOf(t, 200, first, second)
				p.format(snapshot)
				wantFiles(t, "P14.1: Format", p.f, [2]string{headed(1, 0, snapshot)})
				opened(t, p.f, 1, 0, snapshot)
			}
		}
	}
}

// TestFormatWritesP14_1: an empty bank is not erased.
func TestFormatWritesP14_1(t *testing.T) {
	for _, c := range []struct {
		first, second string
		writes        int
	}{{"", "", 1}, {"a", "", 2}, {"", "b", 2}, {"a", "b", 3}} {
		f := flash.Load(100, []byte(c.first), []byte(c.second))
		wantErr(t, "P14.1: Format", journal.Format(f, nil), api.OK)
		if f.Writes() != c.writes {
			t.Errorf("P14.1: Format of %q, %q makes %d writes, want %d", c.first, c.second, f.Writes(), c.writes)
		}
	}
}

// TestFormatRefusalsP14_1: each refusal at its edge, and the one that is named first of several; none of them writes.
func TestFormatRefusalsP14_1(t *testing.T) {
	for _, c := range []struct {
		size, snapshot int
		down           bool
		err            api.Errno
	}{
		{100, 78, false, api.OK}, {100, 79, false, api.ErrFull}, {22, 0, false, api.OK}, {21, 0, false, api.ErrFull}, {0, 0, false, api.ErrFull},
		{1048576, 262132, false, api.OK}, {1048576, 262133, false, api.ErrLong}, {1048576, 262145, false, api.ErrLong}, {262154, 262132, false, api.OK}, {262153, 262132, false, api.ErrFull},
		{100, 262133, false, api.ErrLong}, {100, 1048577, false, api.ErrLong}, {100, 0, true, api.ErrDown}, {100, 79, true, api.ErrDown}, {100, 262133, true, api.ErrDown}, {0, 262133, true, api.ErrDown},
	} {
		f := flash.Load(c.size, []byte("old"), []byte("older"))
		if c.down {
			f.Arm(1, 0)
			f.Append(0, nil)
		}
		call := func() api.Errno { return journal.Format(f, make([]byte, c.snapshot)) }
		if c.err != api.OK {
			unwritten(t, "P14.1: Format", f, c.err, call)
			continue
		}
		wantErr(t, "P14.1: Format", call(), api.OK)
		opened(t, f, 1, 0, string(make([]byte, c.snapshot)))
	}
}

// TestAppendP14_3: record by record, the bank grows by their frames and the numbers follow.
func TestAppendP14_3(t *testing.T) {
	p := pairOf(t, 300, "", "")
	p.format("snap")
	p.open()
	for _, record := range []string{"", "a", "", "abc", framed(82, "in"), headed(7, 0, ""), "\xff\xff", text(50), "\xa5", ""} {
		p.append(record)
	}
	p.open()
	p.append("behind")
}

// TestAppendRefusalsP14_3: a frame that fills the bank to the last byte, one byte more, and more than a frame holds.
func TestAppendRefusalsP14_3(t *testing.T) {
	f, j := begun(t, 100, "s")
	wantNumbers(t, "begun", j, 77, 1, 0)
	unwritten(t, "P14.3: one byte too many", f, api.ErrFull, func() api.Errno { return j.Append(make([]byte, 68)) })
	unwritten(t, "P14.3: more than a frame and a bank hold", f, api.ErrLong, func() api.Errno { return j.Append(make([]byte, 262145)) })
	wantErr(t, "P14.3: to the last byte", j.Append([]byte(text(67))), api.OK)
	wantNumbers(t, "full", j, 0, 1, 1)
	unwritten(t, "P14.3: nothing, into a full bank", f, api.ErrFull, func() api.Errno { return j.Append(nil) })
	opened(t, f, 1, 0, "s", text(67))
}

// TestNoBytesP14: snapshots and records may have no bytes; nil and empty are the same.
func TestNoBytesP14(t *testing.T) {
	for _, none := range [][]byte{nil, {}, make([]byte, 0, 30)} {
		f := flash.New(64)
		wantErr(t, "Format", journal.Format(f, none), api.OK)
		j := opened(t, f, 1, 0, "")
		wantErr(t, "Append", j.Append(none), api.OK)
		wantErr(t, "Keep", j.Keep(none, none), api.OK)
		wantNumbers(t, "two records", j, 22, 1, 2)
		j = opened(t, f, 1, 0, "", "", "")
		wantErr(t, "Compact", j.Compact(none), api.OK)
		wantNumbers(t, "compacted", j, 42, 2, 0)
		for range 5 {
			wantErr(t, "Keep", j.Keep(none, none), api.OK)
		}
		wantNumbers(t, "compacted by Keep", j, 32, 3, 1)
		wantFiles(t, "nothing", f, [2]string{bankOf(3, 0, "", ""), bankOf(2, 0, "", "", "", "", "")})
		opened(t, f, 3, 0, "", "")
	}
}

// TestMostBytesP14: the most that a frame holds, and one more, of each call.
func TestMostBytesP14(t *testing.T) {
	record, snapshot := text(262144), text(262132)
	f, j := begun(t, 1048576, snapshot, record, record)
	wantNumbers(t, "three great frames", j, 1048576-3*262154, 1, 2)
	unwritten(t, "P14.3: Append", f, api.ErrLong, func() api.Errno { return j.Append([]byte(record + "x")) })
	unwritten(t, "P14.4: Compact", f, api.ErrLong, func() api.Errno { return j.Compact([]byte(snapshot + "x")) })
	unwritten(t, "P14.5: Keep of a record", f, api.ErrLong, func() api.Errno { return j.Keep([]byte(record+"x"), nil) })
	unwritten(t, "P14.5: Keep with a snapshot", f, api.ErrLong, func() api.Errno { return j.Keep([]byte(record), []byte(snapshot+"x")) })
	f.Arm(1, 200000)
	wantErr(t, "P14.3: Append into a crash", j.Append([]byte(text(262104))), api.ErrDown)
	f.Restart()
	j = opened(t, f, 2, 200000, snapshot, record, record)
	wantErr(t, "P14.5: Keep", j.Keep([]byte(record), []byte(snapshot)), api.OK)
	wantNumbers(t, "kept", j, 1048576-2*262154, 3, 1)
	wantErr(t, "P14.4: Compact", j.Compact([]byte(snapshot)), api.OK)
	opened(t, f, 4, 0, snapshot)
}

// TestCompactP14_4: the banks take turns; the one that is left stays as it is, and is erased when its turn comes again.
func TestCompactP14_4(t *testing.T) {
	p := pairOf(t, 120, "", "")
	p.format("one")
	p.open()
	for _, snapshot := range []string{"two", "", text(98), "four", "five"} {
		p.append("a")
		p.append("")
		p.compact(snapshot)
	}
	p.append("last")
	wantFiles(t, "P14.4: both banks", p.f, [2]string{bankOf(5, 0, "four", "a", ""), bankOf(6, 0, "five", "last")})
	wantNumbers(t, "compacted", p.j, 120-26-14, 6, 1)
	p.open()
	wantFiles(t, "P14.2: opened", p.f, [2]string{"", bankOf(6, 0, "five", "last")})
}

// TestCompactWritesP14_4: an empty bank is not erased.
func TestCompactWritesP14_4(t *testing.T) {
	f, j := begun(t, 100, "s")
	for i, want := range []int{1, 2, 2} {
		writes := f.Writes()
		wantErr(t, "P14.4: Compact", j.Compact(nil), api.OK)
		if f.Writes()-writes != want {
			t.Errorf("P14.4: Compact %d makes %d writes, want %d", i, f.Writes()-writes, want)
		}
	}
}

// at is an open journal in that epoch, of a bank with 100 bytes of which so many are left.
func at(t *testing.T, epoch uint64, room int) (*flash.Flash, *journal.Journal) {
	t.Helper()
	record := text(100 - 22 - 10 - room)
	f := flash.Load(100, []byte(bankOf(epoch, 0, "", record)), nil)
	j := opened(t, f, epoch, 0, "", record)
	wantNumbers(t, "begun", j, room, int(epoch), 1)
	return f, j
}

// TestCompactRefusalsP14_4: each refusal at its edge, and the one that is named first of several; none of them writes.
func TestCompactRefusalsP14_4(t *testing.T) {
	for _, c := range []struct {
		epoch    uint64
		snapshot int
		err      api.Errno
	}{
		{1, 78, api.OK}, {1, 79, api.ErrFull}, {1, 262132, api.ErrFull}, {1, 262133, api.ErrLong}, {last - 1, 78, api.OK}, {last - 1, 79, api.ErrFull},
		{last, 0, api.ErrRange}, {last, 78, api.ErrRange}, {last, 79, api.ErrRange}, {last, 262132, api.ErrRange}, {last, 262133, api.ErrLong},
	} {
		f, j := at(t, c.epoch, 20)
		call := func() api.Errno { return j.Compact(make([]byte, c.snapshot)) }
		if c.err != api.OK {
			unwritten(t, "P14.4: Compact", f, c.err, call)
			wantNumbers(t, "refused", j, 20, int(c.epoch), 1)
			wantErr(t, "P14.3: it goes on", j.Append(nil), api.OK)
			continue
		}
		wantErr(t, "P14.4: Compact", call(), api.OK)
		wantNumbers(t, "compacted", j, 78-c.snapshot, int(c.epoch+1), 0)
		opened(t, f, c.epoch+1, 0, string(make([]byte, c.snapshot)))
	}
}

// TestKeepP14_5: with room enough it appends whatever the snapshot is; one byte short, it compacts first.
func TestKeepP14_5(t *testing.T) {
	for _, c := range []struct {
		epoch                  uint64
		room, record, snapshot int
		err                    api.Errno
		compacts               bool
	}{
		{5, 30, 20, 7, api.OK, false}, {5, 30, 21, 7, api.OK, true}, {5, 30, 0, 7, api.OK, false}, {5, 10, 0, 7, api.OK, false}, {5, 9, 0, 7, api.OK, true}, {5, 0, 0, 0, api.OK, true},
		{5, 30, 20, 79, api.OK, false}, {5, 30, 20, 262133, api.OK, false}, {last, 30, 20, 7, api.OK, false}, {last, 30, 20, 262133, api.OK, false},
		{5, 30, 61, 7, api.OK, true}, {5, 30, 62, 7, api.ErrFull, false}, {5, 30, 21, 47, api.OK, true}, {5, 30, 21, 48, api.ErrFull, false}, {5, 30, 68, 0, api.OK, true}, {5, 30, 69, 0, api.ErrFull, false},
		{5, 0, 0, 68, api.OK, true}, {5, 0, 0, 69, api.ErrFull, false}, {5, 0, 0, 78, api.ErrFull, false}, {5, 0, 0, 79, api.ErrFull, false},
		{5, 30, 262144, 7, api.ErrFull, false}, {5, 30, 262145, 7, api.ErrLong, false}, {5, 30, 262145, 262133, api.ErrLong, false}, {5, 30, 21, 262132, api.ErrFull, false}, {5, 30, 21, 262133, api.ErrLong, false},
		{last, 30, 21, 7, api.ErrRange, false}, {last, 30, 21, 79, api.ErrRange, false}, {last, 30, 262144, 7, api.ErrRange, false}, {last, 30, 21, 262133, api.ErrLong, false}, {last, 30, 262145, 7, api.ErrLong, false},
		{last - 1, 30, 21, 7, api.OK, true},
	} {
		f, j := at(t, c.epoch, c.room)
		was := text(68 - c.room)
		call := func() api.Errno { return j.Keep([]byte(text(c.record)), make([]byte, c.snapshot)) }
		switch {
		case c.err != api.OK:
			unwritten(t, "P14.5: Keep", f, c.err, call)
			wantNumbers(t, "refused", j, c.room, int(c.epoch), 1)
			opened(t, f, c.epoch, 0, "", was)
		case c.compacts:
			wantErr(t, "P14.5: Keep", call(), api.OK)
			wantNumbers(t, "compacted", j, 100-22-c.snapshot-10-c.record, int(c.epoch+1), 1)
			opened(t, f, c.epoch+1, 0, string(make([]byte, c.snapshot)), text(c.record))
		default:
			wantErr(t, "P14.5: Keep", call(), api.OK)
			wantNumbers(t, "appended", j, c.room-10-c.record, int(c.epoch), 2)
			opened(t, f, c.epoch, 0, "", was, text(c.record))
		}
		if t.Failed() {
			t.Fatalf("P14.5: %+v", c)
		}
	}
}

// TestKeepStoryP14_5: a small state that is kept for a long time, opened again and again.
func TestKeepStoryP14_5(t *testing.T) {
	p := pairOf(t, 96, "", "")
	p.format("0")
	p.open()
	state := "0"
	for i := range 200 {
		p.keep(text(i%13), state)
		state = drawn(chance(uint64(i)), i%17)
		if i%11 == 0 {
			p.open()
		}
	}
	if p.j.Epoch() < 20 {
		t.Errorf("P14.5: it has compacted to epoch %d alone", p.j.Epoch())
	}
}

// deadOf asks that a Journal is dead: every call answers so, whatever it is handed, and writes nothing.
func deadOf(t *testing.T, what string, f *flash.Flash, j *journal.Journal) {
	t.Helper()
	wantNumbers(t, what, j, 0, 0, 0)
	for _, n := range []int{0, 1, 1000, 262133, 262145} {
		b := make([]byte, n)
		unwritten(t, "P14.3: Append, "+what, f, api.ErrDown, func() api.Errno { return j.Append(b) })
		unwritten(t, "P14.4: Compact, "+what, f, api.ErrDown, func() api.Errno { return j.Compact(b) })
		unwritten(t, "P14.5: Keep, "+what, f, api.ErrDown, func() api.Errno { return j.Keep(b, b) })
	}
	wantNumbers(t, what, j, 0, 0, 0)
}

// TestDeadP14_6: a Journal is dead once one of its writes was cut off, whichever, also when the flash is up again.
func TestDeadP14_6(t *testing.T) {
	for _, c := range []struct {
		name   string
		writes int
		call   func(j *journal.Journal) api.Errno
	}{
		{"Append", 1, func(j *journal.Journal) api.Errno { return j.Append([]byte("r")) }},
		{"Compact", 2, func(j *journal.Journal) api.Errno { return j.Compact([]byte("t")) }},
		{"Keep, with room", 1, func(j *journal.Journal) api.Errno { return j.Keep([]byte("r"), []byte("t")) }},
		{"Keep, without", 3, func(j *journal.Journal) api.Errno { return j.Keep([]byte(text(60)), []byte("t")) }},
	} {
		for after := 1; after <= c.writes; after++ {
			for _, keep := range []int{0, 3, 1000} {
				f, j := begun(t, 100, "s", "a")
				wantErr(t, "Compact", j.Compact([]byte(text(20))), api.OK)
				f.Arm(after, keep)
				wantErr(t, c.name, c.call(j), api.ErrDown)
				deadOf(t, c.name+", the flash down", f, j)
				f.Restart()
				deadOf(t, c.name+", the flash up", f, j)
				if _, _, err := journal.Open(f); err != api.OK {
					t.Errorf("P14.7: Open behind %s = %d", c.name, err)
				}
			}
		}
	}
}

// TestDeadAtTheLastEpochP14_6: dead is named ahead of the last epoch.
func TestDeadAtTheLastEpochP14_6(t *testing.T) {
	f, j := at(t, last, 20)
	f.Arm(1, 4)
	wantErr(t, "P14.5: Keep", j.Keep(nil, nil), api.ErrDown)
	deadOf(t, "at the last epoch", f, j)
}

// TestDownP14: Format and Open of a flash that is down, whatever it holds.
func TestDownP14(t *testing.T) {
	for _, bank := range []string{"", "x", bankOf(3, 0, "s", "a"), bankOf(last, 0, "") + "tail"} {
		f := flash.Load(200, []byte(bank), []byte(bank))
		f.Arm(1, 0)
		f.Append(0, nil)
		unwritten(t, "P14.1: Format of a flash that is down", f, api.ErrDown, func() api.Errno { return journal.Format(f, nil) })
		unwritten(t, "P14.2: Open of a flash that is down", f, api.ErrDown, func() api.Errno {
			j, found, err := journal.Open(f)
			if j != nil || !zeroRecovered(found) {
				t.Errorf("P14.2: Open of a flash that is down = %v, %+v", j, found)
			}
			return err
		})
	}
}

// TestNoneP14: what Open answers beside an error may be called without a panic.
func TestNoneP14(t *testing.T) {
	f := flash.New(100)
	j, _, err := journal.Open(f)
	wantErr(t, "P14.2: Open", err, api.ErrBlank)
	deadOf(t, "none", f, j)
}

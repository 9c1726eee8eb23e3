package journal_test

import (
	"bytes"
	"slices"
	"testing"

	"farebox/api"
	"farebox/flash"
	"farebox/journal"
)

// handed is a list with other bytes ahead of it and behind it in its memory, and all of that memory.
func handed(b string) (piece, all []byte) {
	all = []byte("<<<<<<<<" + b + ">>>>>>>>>>>>>>>>>>>>>>>>")
	return all[8 : 8+len(b)], all
}

// wreck writes over a list and over its spare room.
func wreck(b []byte) {
	b = b[:cap(b)]
	for i := range b {
		b[i] = '!'
	}
}

// TestHandedInP14: what is handed in is left as it was, what lies beside it in its memory too, and is not kept, whatever is answered.
func TestHandedInP14(t *testing.T) {
	calls := map[string]func(f *flash.Flash, j *journal.Journal, a, b []byte) api.Errno{
		"Format":  func(f *flash.Flash, j *journal.Journal, a, b []byte) api.Errno { return journal.Format(f, a) },
		"Append":  func(f *flash.Flash, j *journal.Journal, a, b []byte) api.Errno { return j.Append(a) },
		"Compact": func(f *flash.Flash, j *journal.Journal, a, b []byte) api.Errno { return j.Compact(a) },
		"Keep":    func(f *flash.Flash, j *journal.Journal, a, b []byte) api.Errno { return j.Keep(a, b) },
	}
	met := map[api.Errno]int{}
	for name, call := range calls {
		for _, n := range []int{0, 1, 20, 45, 60, 90, 262145} {
			for after := range 4 { // 0: no crash
				f, j := begun(t, 100, "snap", "a")
				wantErr(t, "P14.4: Compact", j.Compact([]byte("s")), api.OK)
				if after > 0 {
					f.Arm(after, 7)
				}
				a, allA := handed(text(n))
				b, allB := handed("other")
				wasA, wasB := bytes.Clone(allA), bytes.Clone(allB)
				met[call(f, j, a, b)]++
				files, room := filesOf(f), j.Room()
				if !bytes.Equal(allA, wasA) || !bytes.Equal(allB, wasB) {
					t.Fatalf("P14: %s of %d bytes has changed what was handed in", name, n)
				}
				wreck(allA)
				wreck(allB)
				wantFiles(t, "P14: what was handed to "+name+" is written over", f, files)
				if j.Room() != room {
					t.Errorf("P14: %s has kept what was handed in", name)
				}
			}
		}
	}
	for _, err := range []api.Errno{api.OK, api.ErrDown, api.ErrLong, api.ErrFull} {
		if met[err] == 0 {
			t.Errorf("no call has answered %d", err)
		}
	}
}

// TestOneListP14: one list may be record and snapshot, and pieces of one list are read as they were when each was handed in.
func TestOneListP14(t *testing.T) {
	f, j := begun(t, 60, "s", text(20))
	buffer, all := handed("one list")
	wantErr(t, "P14.5: Keep", j.Keep(buffer, buffer), api.OK)
	for _, c := range "ab" {
		for i := range buffer {
			buffer[i] = byte(c)
		}
		wantErr(t, "P14.3: Append", j.Append(buffer[:1]), api.OK)
		wantErr(t, "P14.5: Keep", j.Keep(buffer[1:], buffer[:3]), api.OK)
	}
	if !bytes.HasPrefix(all, []byte("<<<<<<<<bbbbbbbb>>>>")) {
		t.Errorf("P14: what was handed in is %q", all)
	}
	_, r, _ := journal.Open(f)
	oneOf(t, "P14: one list", foundIn(r), []found{{"bbb", []string{"bbbbbbb"}}})
}

// TestAnswersAreNewP14: what Open tells is memory of its own, each list of it; the flash and the Journal do not hear of it.
func TestAnswersAreNewP14(t *testing.T) {
	banks := map[string]string{
		"no tail": bankOf(3, 0, "snap", "one", "", "two", "three"),
		"a tail":  bankOf(3, 0, "snap", "one", "", "two", "three") + "tail",
		"none":    bankOf(3, 0, "", "", ""),
	}
	for name, b := range banks {
		k, _ := look(b)
		want := found{k.snapshot, k.records}
		f := flash.Load(200, []byte(b), []byte("x"))
		_, first, _ := journal.Open(f)
		j, second, err := journal.Open(f)
		wantErr(t, "P14.2: Open", err, api.OK)
		files := filesOf(f)
		lists := append([][]byte{second.Snapshot}, second.Records...)
		for i, list := range lists {
			was := slices.Clone(lists)
			for n := range was {
				was[n] = bytes.Clone(was[n])
			}
			wreck(append(list, 1, 2, 3))
			wreck(list)
			for n, other := range lists {
				if n != i && !bytes.Equal(other, was[n]) {
					t.Errorf("P14: %s: list %d is %q, when %d is written over", name, n, other, i)
				}
			}
		}
		second.Records = append(second.Records, []byte("more"))
		oneOf(t, "P14: the answer ahead, "+name, foundIn(first), []found{want})
		wantFiles(t, "P14: answers are written over, "+name, f, files)
		wantErr(t, "P14.3: Append", j.Append([]byte("on")), api.OK)
		_, third, _ := journal.Open(f)
		oneOf(t, "P14: the answer behind, "+name, foundIn(third), []found{{want.snapshot, append(slices.Clip(want.records), "on")}})
	}
}

// TestAnswersStayP14: what Open has told stays as it is, whatever is called behind it.
func TestAnswersStayP14(t *testing.T) {
	f := flash.Load(120, []byte(bankOf(3, 0, "snap", "one", "two")+"tail"), nil)
	j, r, _ := journal.Open(f)
	for i := range 20 {
		j.Keep([]byte(text(i)), []byte("later"))
	}
	j.Compact([]byte("latest"))
	f.Arm(1, 5)
	j.Compact(nil)
	f.Restart()
	journal.Open(f)
	journal.Format(f, []byte("again"))
	if !sameRecovered(r, recovered(4, "snap", []string{"one", "two"}, 4)) {
		t.Errorf("P14: what was told is %+v now", r)
	}
}

// TestApartP14: journals on different flashes, worked on at the same time by different hands, do not meet.
func TestApartP14(t *testing.T) {
	told := make(chan [2]string)
	for range 8 {
		go func() {
			f := flash.New(100)
			journal.Format(f, nil)
			for i := range 200 {
				j, _, _ := journal.Open(f)
				f.Arm(1+i%3, i%50)
				j.Keep([]byte(text(i%40)), []byte(text(i%30)))
				j.Append([]byte("x"))
				f.Disarm()
				f.Restart()
			}
			told <- filesOf(f)
		}()
	}
	want := <-told
	for range 7 {
		if got := <-told; got != want {
			t.Errorf("P14: %q, want %q", got, want)
		}
	}
}

// TestAnyBytesP14: any bytes in the banks, of flashes of any size, end in an answer.
func TestAnyBytesP14(t *testing.T) {
	for n := range uint64(2000) {
		r := chance(400000 + n)
		p := pairOf(t, r.IntN(80), drawn(r, r.IntN(90)), mixture(r))
		p.open()
		p.format(drawn(r, r.IntN(70)))
		p.open()
		if p.j != nil {
			p.append(drawn(r, r.IntN(40)))
			p.compact(drawn(r, r.IntN(70)))
			p.keep(drawn(r, r.IntN(70)), drawn(r, r.IntN(70)))
		}
		p.open()
	}
}

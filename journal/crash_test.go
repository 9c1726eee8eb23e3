package journal_test

import (
	"slices"
	"testing"

	"farebox/api"
	"farebox/flash"
	"farebox/journal"
)

// found is what an Open finds, but for the epoch and the tail.
type found struct {
	snapshot string
	records  []string
}

func (f found) same(g found) bool {
	return f.snapshot == g.snapshot && slices.Equal(f.records, g.records)
}

func foundIn(r api.Recovered) found {
	f := found{snapshot: string(r.Snapshot)}
	for _, x := range r.Records {
		f.records = append(f.records, string(x))
	}
	return f
}

// oneOf asks that what was found is one of these.
func oneOf(t *testing.T, what string, got found, may []found) {
	t.Helper()
	if !slices.ContainsFunc(may, got.same) {
		t.Fatalf("%s: Open has found %q, want one of %q", what, got, may)
	}
}

const small = 72 // bytes of a bank that is crashed at each of its bytes

func load(banks [2]string) *flash.Flash {
	return flash.Load(small, []byte(banks[0]), []byte(banks[1]))
}

// wantKept opens banks that a crash has left, with more crashes at each write of that Open and of the one behind it: all find the same. It answers what that is.
func wantKept(t *testing.T, what string, banks [2]string) found {
	t.Helper()
	f := load(banks)
	_, r, err := journal.Open(f)
	if err != api.OK {
		t.Fatalf("P14.7: %s: Open of %q = %d", what, banks, err)
	}
	first := foundIn(r)
	again(t, f, r)
	for after := 1; after <= f.Writes(); after++ {
		for keep := range small + 1 {
			cutOpen(t, what, banks, first, after, keep)
		}
	}
	return first
}

// cutOpen crashes an Open at one of its writes, and the two behind it too; then it asks what is found.
func cutOpen(t *testing.T, what string, banks [2]string, want found, after, keep int) {
	t.Helper()
	f := load(banks)
	f.Arm(after, keep)
	for i := range 3 {
		f.Arm(1+(after+keep+i)%3, (7*keep+after+i)%small)
	}
	j, r, err := journal.Open(f)
	if j != nil || !zeroRecovered(r) || err != api.ErrDown {
		t.Fatalf("P14.2: %s: an Open that is cut off = %v, %+v, %d", what, j, r, err)
	}
	for range 3 {
		f.Restart()
		_, r, err = journal.Open(f)
		if err == api.OK {
			break
		}
	}
	if f.Down() {
		f.Disarm()
		f.Restart()
		_, r, err = journal.Open(f)
	}
	if err != api.OK || !foundIn(r).same(want) {
		t.Fatalf("P14.8: %s: cut off at write %d behind %d bytes, Open = %q, %d, want %q", what, after, keep, foundIn(r), err, want)
	}
	f.Disarm()
	again(t, f, r)
}

// scene is an open journal, a call that writes, and what may be found if the call is cut off. What is found if it is not is the last of these.
type scene struct {
	name   string
	writes int
	begin  func(t *testing.T) (*flash.Flash, *journal.Journal)
	call   func(j *journal.Journal) api.Errno
	may    []found
}

// fresh is a journal whose other bank is empty; used one whose other bank holds an older epoch.
func fresh(t *testing.T) (*flash.Flash, *journal.Journal) { return begun(t, small, "s", "a", "") }

func used(t *testing.T) (*flash.Flash, *journal.Journal) {
	f, j := begun(t, small, "older", "old", "er")
	wantErr(t, "P14.4: Compact", j.Compact([]byte("s")), api.OK)
	wantErr(t, "P14.3: Append", j.Append([]byte("a")), api.OK)
	wantErr(t, "P14.3: Append", j.Append(nil), api.OK)
	return f, j
}

func scenes() []scene {
	appends := func(j *journal.Journal) api.Errno { return j.Append([]byte("xyz")) }
	compacts := func(j *journal.Journal) api.Errno { return j.Compact([]byte("new")) }
	keeps := func(j *journal.Journal) api.Errno { return j.Keep([]byte("xyz"), []byte("new")) }
	keepsMuch := func(j *journal.Journal) api.Errno { return j.Keep([]byte(text(25)), []byte("new")) }
	old := found{"s", []string{"a", ""}}
	more := found{"s", []string{"a", "", "xyz"}}
	compacted, kept := found{"new", nil}, found{"new", []string{text(25)}}
	return []scene{
		{"Append", 1, fresh, appends, []found{old, more}},
		{"Append, an older epoch there", 1, used, appends, []found{old, more}},
		{"Compact", 1, fresh, compacts, []found{old, compacted}},
		{"Compact, an older epoch there", 2, used, compacts, []found{old, compacted}},
		{"Keep, with room", 1, fresh, keeps, []found{old, more}},
		{"Keep, without", 2, fresh, keepsMuch, []found{old, compacted, kept}},
		{"Keep, without, an older epoch there", 3, used, keepsMuch, []found{old, compacted, kept}},
	}
}

// TestCutOffP14_7: each call that writes, cut off at each of its writes behind each number of bytes; then Open, cut off as well.
func TestCutOffP14_7(t *testing.T) {
	for _, s := range scenes() {
		met := map[int]int{}
		for after := 1; after <= s.writes+1; after++ {
			for keep := range small + 2 {
				f, j := s.begin(t)
				f.Arm(after, keep)
				err := s.call(j)
				if after > s.writes {
					wantErr(t, s.name, err, api.OK)
				} else {
					wantErr(t, s.name, err, api.ErrDown)
				}
				may := s.may
				if err == api.OK {
					may = s.may[len(s.may)-1:]
				}
				got := wantKept(t, s.name, filesOf(f))
				oneOf(t, "P14.7: "+s.name, got, may)
				met[slices.IndexFunc(s.may, got.same)]++
				if err == api.OK {
					break
				}
			}
		}
		if len(met) != len(s.may) {
			t.Errorf("P14.7: %s: of %d ends only these were met: %v", s.name, len(s.may), met)
		}
	}
}

// TestCutOffModelP14: what the banks hold at each crash is what the chapter's writes, in their order, leave.
func TestCutOffModelP14(t *testing.T) {
	call := map[string]func(p *pair){
		"Append":                func(p *pair) { p.append("xyz") },
		"Compact":               func(p *pair) { p.compact("new") },
		"Compact twice":         func(p *pair) { p.compact("new"); p.compact("newer") },
		"Keep, with room":       func(p *pair) { p.keep("xyz", "new") },
		"Keep, without":         func(p *pair) { p.keep(text(25), "new") },
		"Keep, without, twice":  func(p *pair) { p.keep(text(25), "new"); p.keep(text(26), "newer") },
		"Compact, Keep, Append": func(p *pair) { p.compact("new"); p.keep(text(30), "newer"); p.append("") },
	}
	for _, does := range call {
		for after := 1; after <= 6; after++ {
			for keep := range small {
				p := pairOf(t, small, bankOf(4, 1, "s", "a", ""), "")
				p.open()
				p.arm(after, keep)
				does(p)
				p.restart()
				p.open()
			}
		}
	}
}

// TestCutOffFormatP14_1: Format cut off at each of its writes: what is there is what the chapter's writes leave, and another Format does it.
func TestCutOffFormatP14_1(t *testing.T) {
	older := []string{"", "x", bankOf(7, 0, "first", "a"), bankOf(8, 0, "second", "b"), bankOf(9, 0, "third", "c") + "tail"}
	for _, first := range older {
		for _, second := range older {
			for after := 1; after <= 3; after++ {
				for keep := range small {
					wantFormatCut(t, first, second, after, keep)
				}
			}
		}
	}
}

// wantFormatCut asks of a Format that is cut off only that what is found is what one of the banks held, or the new snapshot, or nothing.
func wantFormatCut(t *testing.T, first, second string, after, keep int) {
	t.Helper()
	may := []found{{"new", nil}}
	for _, b := range []string{first, second} {
		if k, ok := look(b); ok {
			may = append(may, found{k.snapshot, k.records})
		}
	}
	p := pairOf(t, small, first, second)
	p.arm(after, keep)
	p.format("new")
	cut := p.f.Down()
	p.restart()
	_, r, err := journal.Open(flash.Load(small, []byte(filesOf(p.f)[0]), []byte(filesOf(p.f)[1])))
	switch {
	case err == api.OK && cut:
		oneOf(t, "P14.7: Format", foundIn(r), may)
	case err == api.OK:
		oneOf(t, "P14.7: Format", foundIn(r), may[:1])
	case err != api.ErrBlank || !cut:
		t.Fatalf("P14.7: Open behind a Format = %d", err)
	}
	p.f.Disarm()
	p.g.Disarm()
	p.format("again")
	opened(t, p.f, 1, 0, "again")
}

// TestCutOffOpenP14_8: Opens of banks by chance, cut off again and again: the first one that answers OK finds what the first of all would have found.
func TestCutOffOpenP14_8(t *testing.T) {
	n := 0
	for i := range uint64(3000) {
		r := chance(200000 + i)
		banks := [2]string{mixture(r), mixture(r)}
		at, k := choose(banks)
		if at < 0 || k.tail != "" && k.epoch == last {
			continue
		}
		f := flash.Load(300, []byte(banks[0]), []byte(banks[1]))
		for range 1 + r.IntN(6) {
			f.Arm(1+r.IntN(3), r.IntN(120))
		}
		err, got := api.ErrDown, api.Recovered{}
		for err == api.ErrDown {
			f.Restart()
			_, got, err = journal.Open(f)
			n++
		}
		if err != api.OK || !foundIn(got).same(found{k.snapshot, k.records}) {
			t.Fatalf("P14.8: %q: Open = %+v, %d", banks, got, err)
		}
		f.Disarm()
		again(t, f, got)
	}
	if n < 3000 {
		t.Errorf("%d Opens alone", n)
	}
}

// TestCutOffTailsP14_8: each sort of tail, with an Open that is cut off at each of its writes behind each number of bytes.
func TestCutOffTailsP14_8(t *testing.T) {
	for name, tail := range tails() {
		for _, other := range []string{"", "other", bankOf(3, 0, "older", "o")} {
			b := bankOf(5, 0, "s", "a")
			if len(b)+len(tail) > small {
				b = bankOf(5, 0, "")
			}
			k, _ := look(b)
			for _, banks := range [][2]string{{b + tail, other}, {other, b + tail}} {
				oneOf(t, "P14.2: "+name, wantKept(t, name, banks), []found{{k.snapshot, k.records}})
			}
		}
	}
}

// history is what a journal was told, in two readings: what must be there, and what else may be since the last crash.
type history struct {
	is  found
	may []found
}

func (h *history) done(is found) { h.is, h.may = is, nil }

// TestHistoryP14_7: long lives of a journal, with crashes anywhere; each Open finds what was answered OK, and of what was cut off all or nothing.
func TestHistoryP14_7(t *testing.T) {
	for n := range uint64(300) {
		r := chance(300000 + n)
		f, j := begun(t, 60+r.IntN(100), "begin")
		h := &history{is: found{snapshot: "begin"}}
		for range 60 {
			if r.IntN(6) == 0 {
				f.Arm(1+r.IntN(4), r.IntN(60))
			}
			record, snapshot := drawn(r, r.IntN(20)), drawn(r, r.IntN(20))
			more := found{h.is.snapshot, append(slices.Clip(h.is.records), record)}
			var err api.Errno
			switch r.IntN(5) {
			case 0, 1:
				err = j.Append([]byte(record))
				h.told(err, more)
			case 2:
				err = j.Compact([]byte(snapshot))
				h.told(err, found{snapshot: snapshot})
			default:
				if len(record)+10 > j.Room() {
					more = found{snapshot, []string{record}}
					h.may = append(h.may, found{snapshot: snapshot})
				}
				err = j.Keep([]byte(record), []byte(snapshot))
				h.told(err, more)
			}
			if err == api.ErrDown || r.IntN(8) == 0 {
				j = h.reopen(t, f)
			}
		}
	}
}

// told is what a call has answered that would lead to that.
func (h *history) told(err api.Errno, is found) {
	switch err {
	case api.OK:
		h.done(is)
	case api.ErrDown:
		h.may = append(h.may, is)
	default:
		h.may = nil
	}
}

// reopen opens until no crash comes between, and asks what was found.
func (h *history) reopen(t *testing.T, f *flash.Flash) *journal.Journal {
	t.Helper()
	for {
		f.Restart()
		j, r, err := journal.Open(f)
		if err == api.ErrDown {
			continue
		}
		wantErr(t, "P14.7: Open", err, api.OK)
		oneOf(t, "P14.7", foundIn(r), append(slices.Clip(h.may), h.is))
		h.done(foundIn(r))
		return j
	}
}

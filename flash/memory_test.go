package flash_test

import (
	"bytes"
	"testing"

	"farebox/api"
	"farebox/flash"
)

// handed is a list with spare room, and all of its memory, for telling whether it was written over.
func handed(text string) (b, all []byte) {
	all = []byte("<<<<" + text + ">>>>>>>>")
	return all[4 : 4+len(text)], all
}

// wreck writes over a list and over its spare room.
func wreck(b []byte) {
	b = b[:cap(b)]
	for i := range b {
		b[i] = '!'
	}
}

// TestHandedInP12: what is handed in is left as it was, what lies beside it too, and is not kept.
func TestHandedInP12(t *testing.T) {
	first, allFirst := handed("abcdef")
	second, allSecond := handed("ghi")
	b, allB := handed("jk")
	c, allC := handed("lmno")
	whole := func() string {
		return string(bytes.Join([][]byte{allFirst, allSecond, allB, allC}, []byte("|")))
	}
	was := whole()
	f := flash.Load(8, first, second)
	wantErr(t, "Append", f.Append(0, b), api.OK)
	wantErr(t, "Append of too much", f.Append(0, c), api.ErrFull)
	f.Arm(1, 3)
	f.Arm(1, 1)
	wantErr(t, "an Append cut off", f.Append(1, c), api.ErrDown)
	wantErr(t, "an Append while down", f.Append(1, c), api.ErrDown)
	f.Restart()
	wantErr(t, "an Erase cut off", f.Erase(0), api.ErrDown)
	f.Restart()
	if whole() != was {
		t.Errorf("what was handed in is %q now, was %q", whole(), was)
	}
	for _, all := range [][]byte{allFirst, allSecond, allB, allC} {
		wreck(all)
	}
	wantFiles(t, "what was handed in is written over", f, "\xffbcdefjk", "ghilmn")
}

// TestLoadedShareNothingP12: one list may be both banks of two flashes; none of the four hears of the others.
func TestLoadedShareNothingP12(t *testing.T) {
	b, all := handed("abcd")
	one, two := flash.Load(8, b, b), flash.Load(3, b, b)
	wantErr(t, "Append", one.Append(0, []byte("xy")), api.OK)
	wantErr(t, "Append", one.Append(1, []byte("zw")), api.OK)
	one.Arm(1, 2)
	wantErr(t, "Erase", one.Erase(0), api.ErrDown)
	wantFiles(t, "the one", one, "\xff\xffcdxy", "abcdzw")
	wantFiles(t, "the other", two, "abc", "abc")
	if two.Down() || two.Writes() != 0 {
		t.Errorf("the other is down %v, has %d writes", two.Down(), two.Writes())
	}
	wantErr(t, "no crash waits at the other", two.Erase(1), api.OK)
	if string(all) != "<<<<abcd>>>>>>>>" {
		t.Errorf("what was handed in is %q", all)
	}
}

// TestOwnAnswerHandedInP12: what a flash has answered may be handed to it.
func TestOwnAnswerHandedInP12(t *testing.T) {
	f := flash.Load(20, []byte("abc"), []byte("de"))
	b, _ := f.Read(0)
	wantErr(t, "Append", f.Append(0, b), api.OK)
	wantErr(t, "Append", f.Append(1, b), api.OK)
	f.Arm(1, 1)
	wantErr(t, "Erase", f.Erase(0), api.ErrDown)
	if string(b) != "abc" {
		t.Errorf("what was read is %q", b)
	}
	wantFiles(t, "behind", f, "\xffbcabc", "deabc")
}

// TestAnswersAreNewP12: an answer stays as it is whatever comes behind it, and what is done to it is not seen.
func TestAnswersAreNewP12(t *testing.T) {
	f := flash.Load(30, []byte("abcd"), []byte("abcd"))
	f.Append(0, []byte("efgh")) // so that the bank may have spare room
	f.Append(1, []byte("efgh"))
	read := func(bank int) []byte {
		b, err := f.Read(bank)
		wantErr(t, "Read", err, api.OK)
		return b
	}
	first, second := f.Files()
	answers := [][]byte{read(0), read(0), read(1), first, second}
	f.Append(0, []byte("ij"))
	f.Append(1, []byte("kl"))
	f.Arm(1, 3)
	f.Erase(0)
	f.Restart()
	for i, b := range answers {
		if string(b) != "abcdefgh" {
			t.Errorf("answer %d is %q now", i, b)
		}
		for j, c := range answers {
			if j > i && string(c) != "abcdefgh" {
				t.Errorf("answer %d is %q behind the writing over of %d", j, c, i)
			}
		}
		wreck(b)
	}
	wantFiles(t, "answers are written over", f, "\xff\xff\xffdefghij", "abcdefghkl")
	f.Append(0, []byte("mn"))
	wantFiles(t, "appended to", f, "\xff\xff\xffdefghijmn", "abcdefghkl")
}

// TestAnswersTornP12: an answer stays as it is at an Erase that is cut off right behind it, and the bank does when the answer is written over.
func TestAnswersTornP12(t *testing.T) {
	ways := map[string]func(f *flash.Flash, bank int) []byte{
		"Read":  func(f *flash.Flash, bank int) []byte { b, _ := f.Read(bank); return b },
		"Files": func(f *flash.Flash, bank int) []byte { a, b := f.Files(); return [2][]byte{a, b}[bank] },
	}
	for name, ask := range ways {
		for bank := range 2 {
			f := flash.Load(30, []byte("abcde"), []byte("abcde"))
			b := ask(f, bank)
			f.Arm(1, 2)
			wantErr(t, "Erase", f.Erase(bank), api.ErrDown)
			if string(b) != "abcde" {
				t.Errorf("%s of bank %d is %q behind the Erase", name, bank, b)
			}
			f.Restart()
			wreck(ask(f, bank))
			want := [2]string{"abcde", "abcde"}
			want[bank] = "\xff\xffcde"
			wantFiles(t, name+" written over", f, want[0], want[1])
		}
	}
}

// TestSharedBackingP12: pieces of one list are read as they were when each was handed in.
func TestSharedBackingP12(t *testing.T) {
	buffer := make([]byte, 3)
	f := flash.New(100)
	want := ""
	for i := range 20 {
		for j := range buffer {
			buffer[j] = byte('a' + i)
			want += string(rune('a' + i))
		}
		wantErr(t, "Append", f.Append(1, buffer), api.OK)
	}
	wantFiles(t, "one buffer for all", f, "", want)
}

// TestNilIsEmptyP12: nil and no bytes are the same.
func TestNilIsEmptyP12(t *testing.T) {
	for _, none := range [][]byte{nil, {}, make([]byte, 0, 9)} {
		f := flash.Load(3, none, []byte("a"))
		wantErr(t, "Append of nothing", f.Append(0, none), api.OK)
		wantErr(t, "Append of nothing", f.Append(1, none), api.OK)
		f.Arm(1, 5)
		wantErr(t, "Append of nothing, cut off", f.Append(1, none), api.ErrDown)
		f.Restart()
		wantSame(t, "nothing", f, &model{size: 3, banks: [2]string{"", "a"}, writes: 3})
	}
}

// TestApartP12: flashes that are worked on at the same time by different hands do not meet.
func TestApartP12(t *testing.T) {
	done := make(chan string)
	for n := range 8 {
		go func() {
			f := flash.New(1000)
			for i := range 200 {
				if i%9 == 0 {
					f.Arm(2, 1)
				}
				f.Append(i%2, []byte{byte(n), 'x'})
				f.Restart()
			}
			first, second := f.Files()
			done <- string(bytes.ReplaceAll(bytes.Join([][]byte{first, second}, nil), []byte{byte(n)}, []byte("n")))
		}()
	}
	want := <-done
	for range 7 {
		if got := <-done; got != want {
			t.Errorf("%q, want %q", got, want)
		}
	}
}

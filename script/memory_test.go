package script_test

import (
	"bytes"
	"slices"
	"testing"

	"farebox/api"
	"farebox/script"
)

// framed is a list in the midst of a greater piece of memory; all is that memory.
func framed(list string) (piece, all []byte) {
	all = slices.Concat([]byte("ahead\n"), []byte(list), []byte("\nbehind "), bytes.Repeat([]byte{'\n'}, 20), []byte("0 1"))
	return all[6 : 6+len(list)], all
}

// wreck writes over all of a list and its spare room, and lays something behind it.
func wreck(list []byte) {
	list = list[:cap(list)]
	for i := range list {
		list[i] ^= 0xFF
	}
	_ = append(list[:0], "less"...)
	_ = append(list, "more"...)
}

// wreckLines does so with each line, and writes over the list and its spare room.
func wreckLines(list [][]byte) {
	for _, line := range list {
		wreck(line)
	}
	list = list[:cap(list)]
	for i := range list {
		list[i] = []byte("stray")
	}
}

// copied is the same list in memory of its own.
func copied(list [][]byte) [][]byte {
	list = slices.Clone(list)
	for i := range list {
		list[i] = bytes.Clone(list[i])
	}
	return list
}

func sameLines(a, b [][]byte) bool { return slices.EqualFunc(a, b, bytes.Equal) }

// manyTexts are texts and lines of all sorts, good and bad ones.
var manyTexts = []string{
	"", "a", "\n", "#\n", "head", "head\n", "head\nhead", "pay 7", "buy 1 3 250\n\n# a remark\n head\n#", "one\ntwo\nthree\n",
	"inject 2 -", "inject 2 00ff", "inject 2 00ff\ninject 3 abcdef0123456789", "inject 2 " + zeros(2190), "inject 2 " + zeros(2192), "inject 2 0F", "pay 01", "pay 1 2", "what",
}

// TestHandedInP25_1: a text or a line is left as it is, and what lies beside it too, whatever is done to the answers.
func TestHandedInP25_1(t *testing.T) {
	for _, text := range manyTexts {
		piece, all := framed(text)
		was := bytes.Clone(all)
		left := func(what string) {
			t.Helper()
			if !bytes.Equal(all, was) || len(piece) != len(text) {
				t.Errorf("P25.1: behind %s of %.40q its memory has changed", what, text)
			}
		}
		list := script.Lines(piece)
		left("Lines")
		wreckLines(list)
		left("a change of the answer to Lines")
		o, _, _ := script.Parse(piece)
		left("Parse")
		wreck(o.Body)
		left("a change of the answer to Parse")
	}
}

// TestFormatHandedInP25_1: a Body is left as it is, and what lies beside it too.
func TestFormatHandedInP25_1(t *testing.T) {
	for kind := range 23 {
		for _, body := range manyTexts {
			piece, all := framed(body)
			was := bytes.Clone(all)
			o := api.Op{Kind: kind, Node: 1, Body: piece}
			want, wantOK := script.Format(o)
			if got, ok := script.Format(o); got != want || ok != wantOK || !bytes.Equal(all, was) {
				t.Errorf("P25.1: Format of kind %d and %.20q leaves other memory, or answers otherwise a second time", kind, body)
			}
			wreck(all)
			if again, ok := script.Format(api.Op{Kind: kind, Node: 1, Body: []byte(body)}); again != want || ok != wantOK {
				t.Errorf("P25.1: Format of kind %d and %.20q hangs on other memory", kind, body)
			}
		}
	}
}

// TestShowHandedInP25_1: a reply's numbers are left as they are, and what lies beside them too; a text that was told stays.
func TestShowHandedInP25_1(t *testing.T) {
	for n := range 6 {
		for _, err := range []api.Errno{0, 181} {
			all := []int64{5, -7, 0, 9, 11, -1, 3, 3, 3}
			was := slices.Clone(all)
			r := api.Reply{Err: err, Nums: all[1 : 1+n]}
			want := script.Show(r)
			if got := script.Show(r); got != want || !slices.Equal(all, was) || len(r.Nums) != n {
				t.Errorf("P25.1: Show of %d numbers: %q and %q, the memory %d", n, want, got, all)
			}
			kept := string([]byte(want))
			clear(all)
			if want != kept {
				t.Errorf("P25.1: the text %q has become %q", kept, want)
			}
		}
	}
}

// TestAnswersApartP25_1: an answer stays as it is when what was handed in, another line, or another answer is written over.
func TestAnswersApartP25_1(t *testing.T) {
	for _, text := range manyTexts {
		piece, all := framed(text)
		first, second := script.Lines(piece), script.Lines(piece)
		want := copied(first)
		one, err, _ := script.Parse(piece)
		two, _, _ := script.Parse(piece)
		line, ok := script.Format(one)
		wreck(all)
		if !sameLines(first, want) || !sameLines(second, want) {
			t.Errorf("P25.1: Lines of %.40q hang on the text's memory", text)
		}
		wreck(two.Body)
		if again, gotErr, _ := script.Parse([]byte(text)); !same(again, one) || gotErr != err {
			t.Errorf("P25.1: Parse of %.40q has become %s, want %s", text, brief(again), brief(one))
		}
		if again, gotOK := script.Format(one); again != line || gotOK != ok {
			t.Errorf("P25.1: Format of what Parse reads of %.40q has become %.40q", text, again)
		}
		wreckLines(second)
		if !sameLines(first, want) {
			t.Errorf("P25.1: two answers of Lines to %.40q share memory", text)
		}
		for i := range first {
			wreck(first[i])
			if !sameLines(first[i+1:], want[i+1:]) {
				t.Errorf("P25.1: line %d of %.40q shares memory with a later one", i, text)
			}
		}
		if !sameLines(script.Lines([]byte(text)), want) {
			t.Errorf("P25.1: Lines of %.40q are others a second time", text)
		}
	}
}

// TestLaidBehindP25_1: what is laid behind a line, or behind the list of lines, is seen nowhere else, and a later line may be written over as well as an earlier one.
func TestLaidBehindP25_1(t *testing.T) {
	text := []byte("one\ntwo\n\n#\nthree\nfour four")
	want := copied(script.Lines(text))
	for i := range want {
		list, other := script.Lines(text), script.Lines(text)
		_ = append(list[i], "!!!!!!!!!!!!"...)
		if !sameLines(list, want) || !sameLines(other, want) {
			t.Errorf("P25.1: what is laid behind line %d is seen: %q", i, list)
		}
		wreck(list[i])
		for k := range want {
			if k != i && !bytes.Equal(list[k], want[k]) {
				t.Errorf("P25.1: line %d is written over, line %d has become %q", i, k, list[k])
			}
		}
		_ = append(list[:i], []byte("stray"))
		if !sameLines(other, want) || string(text) != "one\ntwo\n\n#\nthree\nfour four" {
			t.Errorf("P25.1: what is laid behind the first %d lines is seen elsewhere", i)
		}
	}
}

// TestBodyApartP25_1: the bytes that Parse reads are neither the line's nor another answer's.
func TestBodyApartP25_1(t *testing.T) {
	line := []byte("inject 2 00ff10")
	one, _, _ := script.Parse(line)
	two, _, _ := script.Parse(line)
	one.Body = append(one.Body, "behind"...)
	wreck(one.Body)
	clear(line)
	if !bytes.Equal(two.Body, []byte{0, 0xff, 0x10}) {
		t.Errorf("P25.1: the other Body has become %x", two.Body)
	}
}

// TestNilP25_1: nil and empty lists are the same.
func TestNilP25_1(t *testing.T) {
	if got, other := script.Lines(nil), script.Lines([]byte{}); len(got) != 0 || len(other) != 0 {
		t.Errorf("P25.1: Lines of nothing are %q and %q", got, other)
	}
	for _, line := range [][]byte{nil, {}} {
		if o, err, place := script.Parse(line); !same(o, api.Op{}) || err != api.ErrWord || place != 0 {
			t.Errorf("P25.1: Parse of nothing is %s, %d, %d", brief(o), err, place)
		}
	}
	for _, body := range [][]byte{nil, {}, make([]byte, 0, 9)} {
		wantFormat(t, "P25.1", api.Op{Kind: 12, Node: 3, Body: body}, "inject 3 -", true)
	}
	for _, nums := range [][]int64{nil, {}, make([]int64, 0, 9)} {
		if got := script.Show(api.Reply{Nums: nums}); got != "ok" {
			t.Errorf("P25.1: Show of no numbers is %q", got)
		}
	}
}

// TestOrderOfCallsP25_1: what a call answers hangs on no call ahead of it.
func TestOrderOfCallsP25_1(t *testing.T) {
	r := chance(5)
	for range 300 {
		line, o := anyLine(r), anyOp(r)
		checkLine(t, line)
		checkOp(t, o)
		checkLine(t, anyLine(r))
		script.Lines([]byte(anyLine(r)))
		script.Show(api.Reply{Err: 9, Nums: []int64{anyNumber(r)}})
		checkOp(t, anyOp(r))
		checkOp(t, o)
		checkLine(t, line)
	}
}

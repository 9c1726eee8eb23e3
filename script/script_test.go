package script_test

import (
	"fmt"
	"math"
	"strings"
	"testing"

	"farebox/api"
	"farebox/script"
)

// edges are the numbers by the ends of an int64, of a 32-bit word and of 18 digits, and around 0.
var edges = []int64{
	math.MinInt64, math.MinInt64 + 1, -highest - 2, -highest - 1, -highest, -highest + 1,
	math.MinInt32 - 1, math.MinInt32, -10, -9, -1, 0, 1, 9, 10, math.MaxInt32, math.MaxInt32 + 1,
	highest - 1, highest, highest + 1, highest + 2, math.MaxInt64 - 1, math.MaxInt64,
}

// wantLines asks one text.
func wantLines(t *testing.T, text string, want []string) {
	t.Helper()
	got := script.Lines([]byte(text))
	ok := len(got) == len(want)
	for i := 0; ok && i < len(got); i++ {
		ok = string(got[i]) == want[i]
	}
	if !ok {
		t.Errorf("P25.2: Lines(%.60q) = %.60q, want %.60q", text, got, want)
	}
}

// zeros are n letters 0.
func zeros(n int) string { return strings.Repeat("0", n) }

// TestExamplesP25: those of the chapter.
func TestExamplesP25(t *testing.T) {
	wantLines(t, "buy 1 3 250\n\n# a remark\n head\n#", []string{"buy 1 3 250", " head"})
	wantLines(t, "a\r\n", []string{"a\r"})
	wantLines(t, "", nil)
	for line, o := range map[string]api.Op{
		"buy 1 3 250":             {Kind: 1, Node: 1, Count: 3, Price: 250},
		"ride 1 7 2":              {Kind: 2, Node: 1, Count: 7, Other: 2},
		"crash 0 3 100":           {Kind: 13, Node: 0, Count: 3, Other: 100},
		"inject 2 00ff":           {Kind: 12, Node: 2, Body: []byte{0, 0xff}},
		"inject 2 -":              {Kind: 12, Node: 2},
		"pay -123456789012345678": {Kind: 6, Count: -123456789012345678},
	} {
		wantParse(t, "P25.3", line, o, api.OK, 0)
	}
	for _, c := range []struct {
		line  string
		err   api.Errno
		place int
	}{
		{"inject 2 0F", 252, 9}, {"inject 2 0", 252, 9}, {"inject 2 ", 252, 9},
		{"", 250, 0}, {" head", 250, 0}, {"Head", 250, 0}, {"rides 1 2 3", 250, 0},
		{"head ", 251, 5}, {"pay", 251, 3}, {"pay  1", 251, 6},
		{"pay 01", 252, 4}, {"pay -0", 252, 4}, {"buy 1 x y", 252, 6}, {"pay ", 252, 4},
		{"pay 1234567890123456789", 252, 4},
		{"inject 2 " + zeros(2192), 1, 0}, {"inject 2 " + zeros(2191), 252, 9},
	} {
		wantFault(t, "P25.3", c.line, c.err, c.place)
	}
	wantFormat(t, "P25.4", api.Op{Kind: 6, Count: 7, Node: 9}, "pay 7", true)
	wantFormat(t, "P25.4", api.Op{Kind: 12, Node: 3}, "inject 3 -", true)
	for _, o := range []api.Op{{Kind: 0}, {Kind: 6, Count: 1000000000000000000}, {Kind: 12, Body: make([]byte, 1096)}} {
		wantFormat(t, "P25.4", o, "", false)
	}
	for _, c := range []struct {
		r    api.Reply
		want string
	}{{api.Reply{}, "ok"}, {api.Reply{Nums: []int64{5, -7}}, "ok 5 -7"}, {api.Reply{Err: api.ErrSpent}, "error 181"}} {
		if got := script.Show(c.r); got != c.want {
			t.Errorf("P25.5: Show(%v) = %q, want %q", c.r, got, c.want)
		}
	}
}

// TestLinesP25_2: what is a line, and which lines are told.
func TestLinesP25_2(t *testing.T) {
	for _, c := range []struct {
		text string
		want []string
	}{
		{"\n", nil}, {"\n\n\n", nil},
		{"a", []string{"a"}}, {"a\n", []string{"a"}}, {"\na", []string{"a"}}, {"a\n\nb\n", []string{"a", "b"}},
		{"b\na\nb", []string{"b", "a", "b"}},
		{"#", nil}, {"#a\n# b\n##", nil}, {"#\na", []string{"a"}}, {"a#\n#", []string{"a#"}},
		{" ", []string{" "}}, {"   \n \n", []string{"   ", " "}},
		{" #", []string{" #"}}, {"\t# a\n", []string{"\t# a"}},
		{"\r", []string{"\r"}}, {"a\r\n\r\nb\r", []string{"a\r", "\r", "b\r"}}, {"#\r#", nil}, {"\r#a", []string{"\r#a"}},
		{"a\x00b\n\x00", []string{"a\x00b", "\x00"}}, {"a\vb\fc\u0085d\u2028e", []string{"a\vb\fc\u0085d\u2028e"}},
		{"\xff\n\x8a\n\xe2\x80", []string{"\xff", "\x8a", "\xe2\x80"}},
	} {
		wantLines(t, c.text, c.want)
	}
	long := strings.Repeat("a", 3*longest)
	wantLines(t, long+"\n#"+long+"\n"+long, []string{long, long})
}

// TestManyLinesP25_2: lines without an end to their number are told all.
func TestManyLinesP25_2(t *testing.T) {
	var text strings.Builder
	var want []string
	for range 30000 {
		text.WriteString("pay 1\n\n#\n")
		want = append(want, "pay 1")
	}
	wantLines(t, text.String(), want)
}

// TestCommandsP25_3: each command is the operation of its row, there and back, its fields where the row says.
func TestCommandsP25_3(t *testing.T) {
	whole := api.Op{Node: -5, Other: 2, Count: 9, Price: 11, Body: []byte{0xab, 0x01}}
	text := map[string]string{"Node": "-5", "Other": "2", "Count": "9", "Price": "11", "Body": "ab01"}
	if len(shapes) != 21 {
		t.Fatalf("%d commands", len(shapes))
	}
	for _, s := range shapes {
		var texts []string
		for _, name := range s.names() {
			texts = append(texts, text[name])
		}
		o := whole
		o.Kind = s.kind
		wantParse(t, "P25.3", s.with(texts), only(o), api.OK, 0)
		wantFormat(t, "P25.4", o, s.with(texts), true)
		wantFormat(t, "P25.4", only(o), s.with(texts), true)
	}
}

// TestKindsP25_4: the kinds of the table alone have lines.
func TestKindsP25_4(t *testing.T) {
	for kind := -300; kind <= 300; kind++ {
		line, ok := script.Format(api.Op{Kind: kind})
		if want := kind >= 1 && kind <= 21; ok != want || (line != "") != want {
			t.Errorf("P25.4: Format of the kind %d = %q, %v", kind, line, ok)
		}
	}
	for _, kind := range []int{math.MinInt, -1 << 32, 1 << 32, 1<<32 + 1, 1<<8 + 1, 1<<16 + 1, math.MaxInt} {
		wantFormat(t, "P25.4", api.Op{Kind: kind}, "", false)
	}
}

// TestWordsP25_3: each word in other letters, shortened, lengthened and in two is none, whatever stands behind it.
func TestWordsP25_3(t *testing.T) {
	known := map[string]int{}
	for _, s := range shapes {
		known[s.word()] = s.kind
	}
	for _, s := range shapes {
		word := s.word()
		others := []string{strings.ToUpper(word), strings.ToUpper(word[:1]) + word[1:], word[1:], word[:len(word)-1], word + "s", "x" + word, word + word, word + "\t", word + "\r", word + "\n", word + "\x00", "\x00" + word, "\xef\xbb\xbf" + word, word + "\u00a0", "#" + word, "-" + word}
		for i := range word {
			others = append(others, word[:i]+strings.ToUpper(word[i:i+1])+word[i+1:])
		}
		for i := 1; i < len(word); i++ {
			others = append(others, word[:i]+" "+word[i:])
		}
		for _, other := range others {
			if first, _, _ := strings.Cut(other, " "); known[first] > 0 {
				t.Fatalf("%q begins with a word", other)
			}
			for _, behind := range []string{"", " ", " 1", " 1 2", " 1 2 3", " x", "  "} {
				wantFault(t, "P25.3", other+behind, api.ErrWord, 0)
			}
			if len(s.names()) > 0 {
				wantFault(t, "P25.3", other+" "+strings.Join(s.good(), " "), api.ErrWord, 0)
			}
		}
	}
	for _, line := range []string{" ", "  ", "\t", "1", "-", "#", "# head", "\xff", "w", "nodes"} {
		wantFault(t, "P25.3", line, api.ErrWord, 0)
	}
}

// TestFieldsP25_3: each command with too few and too many fields, with a blank too many anywhere, and with an empty field in each place.
func TestFieldsP25_3(t *testing.T) {
	for _, s := range shapes {
		good := s.good()
		for few := range good {
			line := s.with(good[:few])
			wantFault(t, "P25.3", line, api.ErrFields, len(line))
		}
		for _, more := range []string{" 1", " ", "  ", " x", " 1 2 3 4", " \n"} {
			line := s.with(good) + more
			wantFault(t, "P25.3", line, api.ErrFields, len(line))
		}
		wantFault(t, "P25.3", " "+s.with(good), api.ErrWord, 0)
		place := len(s.word()) + 1
		for i := range good {
			with := append([]string(nil), good...)
			with[i] = ""
			wantFault(t, "P25.3", s.with(with), api.ErrNumber, place)
			with[i] = " " + good[i]
			wantFault(t, "P25.3", s.with(with), api.ErrFields, len(s.with(with)))
			place += len(good[i]) + 1
		}
	}
}

// wrongNumbers are no whole numbers.
var wrongNumbers = []string{
	"", "-", "--", "-0", "00", "01", "-01", "000000000000000000", "0000000000000000001", "+1", "+0", "+", "--1", "-+1", "1-", "1-1",
	"x", "1x", "x1", "-x", "a", "f", "0x1", "1e3", "1.0", "1.", ".1", "1,000", "1_000", "0b1", "0o7", "\t1", "1\t", "1\r", "1\n", "\n", "1\x00", "\x00",
	"\x80", "1\xff", "\xff1", "\xb1", "1\xe2", "٣", "３", "1３", "߁", "−1", "１", "\u00a01", "½", "²", "/", ":", "1/", "1:",
	"1000000000000000000", "-1000000000000000000", "1234567890123456789", "-1234567890123456789", "9223372036854775807", "-9223372036854775808",
	"9223372036854775808", "18446744073709551616", "18446744073709551617", "0123456789012345678", "999999999999999999x", "12345678901234567x",
}

// TestNumbersP25_3: numbers in each place in which one may stand.
func TestNumbersP25_3(t *testing.T) {
	right := map[string]int64{
		"0": 0, "1": 1, "-1": -1, "9": 9, "10": 10, "-10": -10, "90": 90, "100": 100, "-7000": -7000, "1234567890": 1234567890, "4294967296": 1 << 32,
		"100000000000000000": 100000000000000000, "999999999999999999": highest, "-999999999999999999": -highest, "-100000000000000000": -100000000000000000,
	}
	for _, s := range shapes {
		good := s.good()
		place := len(s.word()) + 1
		for i, name := range s.names() {
			with := append([]string(nil), good...)
			for _, wrong := range wrongNumbers {
				with[i] = wrong
				if name != "Body" {
					wantFault(t, "P25.3", s.with(with), api.ErrNumber, place)
				}
			}
			for text, n := range right {
				with[i] = text
				want, err, _ := parse(s.with(with))
				if name == "Body" || err != api.OK {
					continue
				}
				told := map[string]int64{"Node": int64(want.Node), "Other": int64(want.Other), "Count": int64(want.Count), "Price": want.Price}
				if told[name] != n {
					t.Fatalf("the model reads %q as %d", text, told[name])
				}
				wantParse(t, "P25.3", s.with(with), want, api.OK, 0)
				wantFormat(t, "P25.6", want, s.with(with), true)
			}
			place += len(good[i]) + 1
		}
	}
}

// TestFirstPlaceP25_3: where several fields are wrong, the first one's place is told.
func TestFirstPlaceP25_3(t *testing.T) {
	for _, c := range []struct {
		line  string
		place int
	}{
		{"buy x y z", 4}, {"buy 1 y z", 6}, {"buy 1 -22 z", 10}, {"buy   ", 4}, {"buy 1  ", 6}, {"buy 123  0", 8}, {"buy -1 2 ", 9},
		{"crash 0 00 00", 8}, {"crash 00 0 00", 6}, {"crash 0 0 00", 10},
		{"inject x 0F", 7}, {"inject  ", 7}, {"inject 2 0F", 9}, {"inject -999999999999999999 x", 27}, {"gossip 1 02", 9}, {"purse 01 02", 6},
	} {
		wantFault(t, "P25.3", c.line, api.ErrNumber, c.place)
	}
}

// TestLongP25_3: a line has at most 2200 bytes, whatever it says; what is longer is not looked at.
func TestLongP25_3(t *testing.T) {
	word := strings.Repeat("a", longest)
	wantFault(t, "P25.3", word, api.ErrWord, 0)
	wantFault(t, "P25.3", word+"a", api.ErrLong, 0)
	blanks := strings.Repeat(" ", longest)
	wantFault(t, "P25.3", blanks, api.ErrWord, 0)
	wantFault(t, "P25.3", blanks+" ", api.ErrLong, 0)
	for _, s := range shapes {
		more := s.with(s.good())
		more += strings.Repeat(" ", longest-len(more))
		wantFault(t, "P25.3", more, api.ErrFields, longest)
		wantFault(t, "P25.3", more+" ", api.ErrLong, 0)
		if len(s.names()) == 1 {
			digits := s.word() + " " + strings.Repeat("1", longest-len(s.word())-1)
			wantFault(t, "P25.3", digits, api.ErrNumber, len(s.word())+1)
			wantFault(t, "P25.3", digits+"1", api.ErrLong, 0)
		}
	}
	for _, n := range []int{2201, 2202, 4400, 1 << 16, 1 << 20} {
		for _, c := range []string{"a", " ", "0", "\n", "\xff"} {
			wantFault(t, "P25.3", "head"+strings.Repeat(c, n-4), api.ErrLong, 0)
		}
	}
}

// TestHexP25_3: bytes have one way to be written.
func TestHexP25_3(t *testing.T) {
	for _, wrong := range []string{"", "0", "000", "--", "-0", "-00", "00-", "0-", "0F", "F0", "FF", "aB", "0g", "g0", "0x00", "0x", "é", "\xff\xff", "0\x80", "\x000", "0\n", "00\n", "00\t", "００", "+1", "zz", "/0", "0:", "`a", "a`", "@@"} {
		wantFault(t, "P25.3", "inject 2 "+wrong, api.ErrNumber, 9)
		wantFault(t, "P25.3", "inject 2 ab"+wrong+"cdx", api.ErrNumber, 9)
	}
	for b := range 256 {
		c := string([]byte{byte(b)})
		for _, pair := range []string{c + "0", "0" + c, c + c} {
			checkLine(t, "inject 0 "+pair)
			checkLine(t, "inject 0 a0"+pair)
		}
	}
	all := make([]byte, 256)
	var told strings.Builder
	for i := range all {
		all[i] = byte(i)
		told.WriteString(string([]byte{"0123456789abcdef"[i/16], "0123456789abcdef"[i%16]}))
	}
	wantParse(t, "P25.3", "inject 3 "+told.String(), api.Op{Kind: 12, Node: 3, Body: all}, api.OK, 0)
	wantFormat(t, "P25.4", api.Op{Kind: 12, Node: 3, Body: all}, "inject 3 "+told.String(), true)
}

// TestRoomP25: the most bytes that a line has room for, and one more, behind nodes of each length.
func TestRoomP25(t *testing.T) {
	for _, c := range []struct {
		node string
		n    int
		most int
	}{{"0", 0, 1095}, {"-1", -1, 1095}, {"10", 10, 1095}, {"100", 100, 1094}, {"999999999999999999", highest, 1087}, {"-999999999999999999", -highest, 1086}} {
		front := "inject " + c.node + " "
		o := api.Op{Kind: 12, Node: c.n, Body: make([]byte, c.most)}
		wantParse(t, "P25.3", front+zeros(2*c.most), o, api.OK, 0)
		wantFormat(t, "P25.4", o, front+zeros(2*c.most), true)
		wantFault(t, "P25.3", front+zeros(2*c.most+2), api.ErrLong, 0)
		if len(front)+2*c.most < longest {
			wantFault(t, "P25.3", front+zeros(2*c.most+1), api.ErrNumber, len(front))
		}
		for _, more := range []int{1, 2, 10, 100, 1 << 20} {
			o.Body = make([]byte, c.most+more)
			wantFormat(t, "P25.4", o, "", false)
		}
	}
	for _, n := range []int{1095, 1096, 1099, 1100, 1101, 2200, 2201, 1 << 20} {
		for _, s := range shapes {
			if s.word() != "inject" {
				checkOp(t, api.Op{Kind: s.kind, Count: 3, Body: make([]byte, n)})
			}
		}
	}
}

// TestStepsP25_3: of two faults the one is told that is looked for first.
func TestStepsP25_3(t *testing.T) {
	wantFault(t, "P25.3", "what "+zeros(longest-4), api.ErrLong, 0)
	wantFault(t, "P25.3", "pay 1 2 "+zeros(longest), api.ErrLong, 0)
	wantFault(t, "P25.3", "what 1 x", api.ErrWord, 0)
	wantFault(t, "P25.3", "pay x y", api.ErrFields, 7)
	wantFault(t, "P25.3", "buy x", api.ErrFields, 5)
	wantFault(t, "P25.3", "head x", api.ErrFields, 6)
	wantFault(t, "P25.3", "inject 0F", api.ErrFields, 9)
}

// TestEdgesP25_4: each field at each edge, alone and with the others; a number that has too many digits counts where its kind has a place for it, and nowhere else.
func TestEdgesP25_4(t *testing.T) {
	for kind := range 23 {
		for _, n := range edges {
			for _, o := range []api.Op{{}, {Node: int(n)}, {Other: int(n)}, {Count: int(n)}, {Price: n}, {Node: int(n), Other: int(n), Count: int(n), Price: n}} {
				for _, body := range [][]byte{nil, {}, {0}, {0xff, 1}} {
					o.Kind, o.Body = kind, body
					checkOp(t, o)
				}
			}
		}
	}
	wantFormat(t, "P25.4", api.Op{Kind: 6, Count: highest, Node: math.MaxInt, Price: math.MinInt64}, "pay 999999999999999999", true)
	wantFormat(t, "P25.4", api.Op{Kind: 6, Count: -highest, Other: math.MinInt}, "pay -999999999999999999", true)
	wantFormat(t, "P25.4", api.Op{Kind: 15, Node: 1, Other: 2, Count: math.MinInt, Price: 3, Body: make([]byte, 9000)}, "head", true)
}

// TestShowP25_5: OK and every error, with no numbers and with the least and the greatest.
func TestShowP25_5(t *testing.T) {
	ends := []int64{math.MinInt64, 0, -1, math.MaxInt64, 0}
	const told = " -9223372036854775808 0 -1 9223372036854775807 0"
	for n := range 400 {
		front := "ok"
		if n > 0 {
			front = fmt.Sprintf("error %d", n)
		}
		for _, c := range []struct {
			nums []int64
			want string
		}{{nil, front}, {[]int64{}, front}, {ends, front + told}, {ends[:1], front + " -9223372036854775808"}, {[]int64{0}, front + " 0"}, {[]int64{highest + 1, 10}, front + " 1000000000000000000 10"}} {
			if got := script.Show(api.Reply{Err: api.Errno(n), Nums: c.nums}); got != c.want {
				t.Errorf("P25.5: Show(%d, %d) = %q, want %q", n, c.nums, got, c.want)
			}
		}
	}
	for err, want := range map[api.Errno]string{-1: "error -1 7", math.MinInt: "error -9223372036854775808 7", math.MaxInt: "error 9223372036854775807 7"} {
		if got := script.Show(api.Reply{Err: err, Nums: []int64{7}}); got != want {
			t.Errorf("P25.5: Show(%d, [7]) = %q, want %q", err, got, want)
		}
	}
}

// TestManyNumbersP25_5: a reply has any number of numbers.
func TestManyNumbersP25_5(t *testing.T) {
	nums := make([]int64, 10000)
	if got, want := script.Show(api.Reply{Nums: nums}), "ok"+strings.Repeat(" 0", len(nums)); got != want {
		t.Errorf("P25.5: %d numbers are told in %d bytes, want %d", len(nums), len(got), len(want))
	}
}

// TestTextsDifferP25_6: replies that are near one another have different texts.
func TestTextsDifferP25_6(t *testing.T) {
	lists := [][]int64{nil, {0}, {1}, {-1}, {0, 0}, {0, 1}, {1, 0}, {11}, {1, 1}, {10}, {-10}, {181}, {0, 0, 0}, {18, 1}}
	seen := map[string]int{}
	for _, err := range []api.Errno{0, 1, 18, 181, 1811, -1} {
		for _, nums := range lists {
			text := script.Show(api.Reply{Err: err, Nums: nums})
			if seen[text]++; seen[text] > 1 {
				t.Errorf("P25.6: %q is told once more, for %d, %d", text, err, nums)
			}
		}
	}
}

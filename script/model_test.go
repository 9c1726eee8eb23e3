package script_test

import (
	"bytes"
	"encoding/hex"
	"fmt"
	"math/rand/v2"
	"regexp"
	"strconv"
	"strings"
	"testing"

	"farebox/api"
	"farebox/script"
)

const (
	longest = 2200               // bytes of a line
	highest = 999999999999999999 // the number of 18 digits that is the greatest
)

func chance(n uint64) *rand.Rand { return rand.New(rand.NewPCG(25, n)) }

// shape is a command as the chapter's table has it.
type shape struct {
	line   string
	kind   int
	fields string
}

var shapes = []shape{
	{"buy W RIDES PRICE", 1, "Node Count Price"},
	{"ride W SERIAL G", 2, "Node Count Other"},
	{"gossip G H", 3, "Node Other"},
	{"sync G H", 4, "Node Other"},
	{"freeze SERIAL", 5, "Count"},
	{"pay SERIAL", 6, "Count"},
	{"revoke SERIAL", 7, "Count"},
	{"floor K", 8, "Count"},
	{"deliver M", 9, "Count"},
	{"drop M", 10, "Count"},
	{"double M", 11, "Count"},
	{"inject NODE HEX", 12, "Node Body"},
	{"crash NODE AFTER KEEP", 13, "Node Count Other"},
	{"restart NODE", 14, "Node"},
	{"head", 15, ""},
	{"row G SERIAL", 16, "Node Count"},
	{"carnet SERIAL", 17, "Count"},
	{"purse W SERIAL", 18, "Node Count"},
	{"money", 19, ""},
	{"bag", 20, ""},
	{"state", 21, ""},
}

// word is the word with which the command begins.
func (s shape) word() string {
	word, _, _ := strings.Cut(s.line, " ")
	return word
}

// names are the operation's fields that the command's fields go to.
func (s shape) names() []string { return strings.Fields(s.fields) }

// with is the command's line with these fields.
func (s shape) with(texts []string) string {
	return strings.Join(append([]string{s.word()}, texts...), " ")
}

// good are fields that the command may have, no two of them alike.
func (s shape) good() []string {
	var texts []string
	for i, name := range s.names() {
		if name == "Body" {
			texts = append(texts, "00ff")
		} else {
			texts = append(texts, strconv.Itoa(7*i-5))
		}
	}
	return texts
}

var (
	wholeNumber = regexp.MustCompile(`^(0|-?[1-9][0-9]{0,17})$`)
	someBytes   = regexp.MustCompile(`^(-|([0-9a-f][0-9a-f])+)$`)
)

// fill puts a field's text where the table says, and tells whether it is written well.
func fill(o *api.Op, name, text string) bool {
	if name == "Body" {
		if text != "-" {
			o.Body, _ = hex.DecodeString(text)
		}
		return someBytes.MatchString(text)
	}
	n, _ := strconv.ParseInt(text, 10, 64)
	switch name {
	case "Node":
		o.Node = int(n)
	case "Other":
		o.Other = int(n)
	case "Count":
		o.Count = int(n)
	case "Price":
		o.Price = n
	}
	return wholeNumber.MatchString(text)
}

// parse is Parse by the chapter's words.
func parse(line string) (api.Op, api.Errno, int) {
	if len(line) > longest {
		return api.Op{}, api.ErrLong, 0
	}
	texts, places := []string{""}, []int{0}
	for i := range len(line) {
		if line[i] == 32 {
			texts, places = append(texts, ""), append(places, i+1)
		} else {
			texts[len(texts)-1] += line[i : i+1]
		}
	}
	for _, s := range shapes {
		if s.word() != texts[0] {
			continue
		}
		if len(texts) != 1+len(s.names()) {
			return api.Op{}, api.ErrFields, len(line)
		}
		o := api.Op{Kind: s.kind}
		for i, name := range s.names() {
			if !fill(&o, name, texts[1+i]) {
				return api.Op{}, api.ErrNumber, places[1+i]
			}
		}
		return o, api.OK, 0
	}
	return api.Op{}, api.ErrWord, 0
}

// written is a field of an operation, and whether it has its place in a line.
func written(o api.Op, name string) (string, bool) {
	n := map[string]int64{"Node": int64(o.Node), "Other": int64(o.Other), "Count": int64(o.Count), "Price": o.Price}
	switch {
	case name != "Body":
		text := fmt.Sprintf("%d", n[name])
		return text, len(strings.TrimPrefix(text, "-")) <= 18
	case len(o.Body) == 0:
		return "-", true
	}
	return fmt.Sprintf("%x", o.Body), true
}

// format is Format by the chapter's words.
func format(o api.Op) (string, bool) {
	for _, s := range shapes {
		if s.kind != o.Kind {
			continue
		}
		var texts []string
		for _, name := range s.names() {
			text, ok := written(o, name)
			if !ok {
				return "", false
			}
			texts = append(texts, text)
		}
		line := s.with(texts)
		if len(line) > longest {
			return "", false
		}
		return line, true
	}
	return "", false
}

// same compares operations; a Body of nil and an empty one are the same.
func same(a, b api.Op) bool {
	return a.Kind == b.Kind && a.Node == b.Node && a.Other == b.Other && a.Count == b.Count && a.Price == b.Price && bytes.Equal(a.Body, b.Body)
}

// brief is an operation, of a long Body its beginning alone.
func brief(o api.Op) string {
	return fmt.Sprintf("{%d: %d, %d, %d, %d, %x of %d}", o.Kind, o.Node, o.Other, o.Count, o.Price, o.Body[:min(len(o.Body), 8)], len(o.Body))
}

// wantParse asks one line.
func wantParse(t *testing.T, what, line string, o api.Op, err api.Errno, place int) {
	t.Helper()
	got, gotErr, at := script.Parse([]byte(line))
	if !same(got, o) || gotErr != err || at != place {
		t.Errorf("%s: Parse(%.60q of %d) = %s, %d, %d, want %s, %d, %d", what, line, len(line), brief(got), gotErr, at, brief(o), err, place)
	}
}

// wantFault asks a line that is no command.
func wantFault(t *testing.T, what, line string, err api.Errno, place int) {
	t.Helper()
	wantParse(t, what, line, api.Op{}, err, place)
}

// wantFormat asks one operation.
func wantFormat(t *testing.T, what string, o api.Op, line string, ok bool) {
	t.Helper()
	got, gotOK := script.Format(o)
	if got != line || gotOK != ok {
		t.Errorf("%s: Format(%s) = %.60q of %d, %v, want %.60q of %d, %v", what, brief(o), got, len(got), gotOK, line, len(line), ok)
	}
}

// checkLine asks of a line what the model says, and what follows from that.
func checkLine(t *testing.T, line string) {
	t.Helper()
	o, err, place := parse(line)
	wantParse(t, "P25.3", line, o, err, place)
	if got, gotErr, _ := script.Parse([]byte(line)); gotErr == api.OK {
		wantFormat(t, "P25.6: what Parse reads", got, line, true)
	}
}

// checkOp asks of an operation what the model says, and what follows from that.
func checkOp(t *testing.T, o api.Op) {
	t.Helper()
	line, ok := format(o)
	wantFormat(t, "P25.4", o, line, ok)
	if told, ok := script.Format(o); ok {
		want, _, _ := parse(told)
		wantParse(t, "P25.6: what Format tells", told, want, api.OK, 0)
		if !same(only(o), want) {
			t.Errorf("P25.6: %s is told as %.60q, which is %s", brief(o), told, brief(want))
		}
	}
}

// only is an operation without the fields for which its kind has no place.
func only(o api.Op) api.Op {
	kept := api.Op{Kind: o.Kind}
	for _, s := range shapes {
		if s.kind != o.Kind {
			continue
		}
		for _, name := range s.names() {
			switch name {
			case "Node":
				kept.Node = o.Node
			case "Other":
				kept.Other = o.Other
			case "Count":
				kept.Count = o.Count
			case "Price":
				kept.Price = o.Price
			case "Body":
				kept.Body = o.Body
			}
		}
	}
	return kept
}

// anyNumber is one by an edge, a small one, or any.
func anyNumber(r *rand.Rand) int64 {
	switch r.IntN(4) {
	case 0:
		return edges[r.IntN(len(edges))]
	case 1:
		return int64(r.IntN(40) - 20)
	case 2:
		return int64(r.Uint64()) % (highest + 1)
	}
	return int64(r.Uint64()) >> r.IntN(64)
}

// anyOp is an operation of any kind; its fields are there whether or not the kind has a place for them.
func anyOp(r *rand.Rand) api.Op {
	o := api.Op{Kind: r.IntN(24) - 1, Node: int(anyNumber(r)), Other: int(anyNumber(r)), Count: int(anyNumber(r)), Price: anyNumber(r)}
	size := r.IntN(20)
	if r.IntN(4) == 0 {
		size = 1080 + r.IntN(20)
	}
	o.Body = make([]byte, r.IntN(size+1))
	if r.IntN(2) == 0 {
		o.Body = make([]byte, size)
	}
	for i := range o.Body {
		o.Body[i] = byte(r.Uint32())
	}
	return o
}

// TestAnyOpP25_4: any operation is told as the model tells it.
func TestAnyOpP25_4(t *testing.T) {
	r := chance(1)
	for range 40000 {
		checkOp(t, anyOp(r))
	}
}

// texts are fields, good and bad ones, for anyLine.
var texts = []string{"0", "1", "-1", "-", "", "00", "-0", "01", "ff", "0F", "abc", "7", "+1", "1\n", "999999999999999999", "1000000000000000000", "-999999999999999999", "\xff", "é", "٣", "３", "head", "10", "1234", "12a4"}

// anyLine is a line of a word, mostly one of the 21, and of fields, often as many as the word wants.
func anyLine(r *rand.Rand) string {
	s := shapes[r.IntN(len(shapes))]
	many := len(s.names())
	if r.IntN(4) == 0 {
		many = r.IntN(6)
	}
	line := s.word()
	if r.IntN(16) == 0 {
		line = texts[r.IntN(len(texts))]
	}
	for range many {
		line += " " + texts[r.IntN(len(texts))]
	}
	return line
}

// TestAnyLineP25_3: any line is read as the model reads it, also with a byte of it changed, taken out or laid in.
func TestAnyLineP25_3(t *testing.T) {
	r := chance(2)
	for range 40000 {
		line := anyLine(r)
		checkLine(t, line)
		at := r.IntN(len(line) + 1)
		b := string([]byte{byte(r.Uint32())})
		checkLine(t, line[:at]+b+line[at:])
		if at < len(line) {
			checkLine(t, line[:at]+b+line[at+1:])
			checkLine(t, line[:at]+line[at+1:])
		}
	}
}

// TestNearLinesP25_3: of each command all lines that are one byte off it.
func TestNearLinesP25_3(t *testing.T) {
	for _, s := range shapes {
		line := s.with(s.good())
		checkLine(t, line)
		for at := range len(line) + 1 {
			checkLine(t, line[:at]+line[min(at+1, len(line)):])
			for b := range 256 {
				c := string([]byte{byte(b)})
				checkLine(t, line[:at]+c+line[at:])
				checkLine(t, line[:at]+c+line[min(at+1, len(line)):])
			}
		}
	}
}

// TestShortLinesP25_3: all fields of up to five of the letters that numbers and bytes are written with, and of some that they are not.
func TestShortLinesP25_3(t *testing.T) {
	const letters = "-019af "
	for _, word := range []string{"pay", "inject 1"} {
		tails := []string{""}
		for range 5 {
			var longer []string
			for _, tail := range tails {
				checkLine(t, word+" "+tail)
				for _, c := range letters {
					longer = append(longer, tail+string(c))
				}
			}
			tails = longer
		}
	}
}

// lines is Lines by the chapter's words.
func lines(text string) []string {
	var told []string
	for _, line := range strings.Split(text, "\n") {
		if line != "" && !strings.HasPrefix(line, "#") {
			told = append(told, line)
		}
	}
	return told
}

// TestAnyTextP25_2: all texts of up to six of the letters that matter, and longer ones of any.
func TestAnyTextP25_2(t *testing.T) {
	texts := []string{""}
	for range 6 {
		var longer []string
		for _, text := range texts {
			wantLines(t, text, lines(text))
			for _, c := range "\n# \ra" {
				longer = append(longer, text+string(c))
			}
		}
		texts = longer
	}
	r := chance(3)
	for range 500 {
		text := make([]byte, r.IntN(400))
		for i := range text {
			text[i] = byte(r.Uint32())
			if r.IntN(8) == 0 {
				text[i] = "\n\n#"[r.IntN(3)]
			}
		}
		wantLines(t, string(text), lines(string(text)))
	}
}

// TestAnyReplyP25_5: any reply is told as the model tells it, and different ones differently.
func TestAnyReplyP25_5(t *testing.T) {
	r := chance(4)
	seen := map[string]string{}
	for range 40000 {
		p := api.Reply{Err: api.Errno(max(0, r.IntN(300)-100))}
		if r.IntN(16) == 0 {
			p.Err = api.Errno(anyNumber(r))
		}
		for range r.IntN(5) {
			p.Nums = append(p.Nums, anyNumber(r))
		}
		want := "ok"
		if p.Err != api.OK {
			want = fmt.Sprintf("error %d", p.Err)
		}
		for _, n := range p.Nums {
			want += fmt.Sprintf(" %d", n)
		}
		got := script.Show(p)
		if got != want {
			t.Errorf("P25.5: Show(%d, %d) = %q, want %q", p.Err, p.Nums, got, want)
		}
		told := fmt.Sprintf("%d: %d", p.Err, p.Nums)
		if was, ok := seen[got]; ok && was != told {
			t.Errorf("P25.6: the replies %s and %s are both told as %q", was, told, got)
		}
		seen[got] = told
	}
}

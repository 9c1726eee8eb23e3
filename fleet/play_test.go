package fleet_test

import (
	"slices"
	"strings"
	"testing"

	"farebox/api"
	"farebox/fleet"
	"farebox/script"
)

// wantPlay asks what a text answers, as replies and as a text.
func wantPlay(t *testing.T, text string, lines ...string) {
	t.Helper()
	replies, err := fleet.Play(config, []byte(text))
	var got []string
	for _, r := range replies {
		got = append(got, script.Show(r))
	}
	if err != api.OK || !slices.Equal(got, lines) {
		t.Errorf("P26.14: Play(%.80q) = %q, %d, want %q", text, got, err, lines)
	}
	want := ""
	for _, line := range lines {
		want += line + "\n"
	}
	if got := fleet.Text(config, []byte(text)); got != want {
		t.Errorf("P26.14: Text(%.80q) = %q, want %q", text, got, want)
	}
}

// TestPlayP26_14: a reply for each command line; of a line that is none its error, with the place.
func TestPlayP26_14(t *testing.T) {
	wantPlay(t, "")
	wantPlay(t, "\n\n# nothing\n#\n")
	wantPlay(t, "state", "ok 1 1 1 1 1")
	wantPlay(t, "state\n", "ok 1 1 1 1 1")
	wantPlay(t, "# a fleet\nbuy 1 3 100\n\nbag\n#bag\nmoney", "ok 1 1", "ok 1 4095", "ok 0 0 0")
	wantPlay(t, "what\n head\nHEAD\nhead \npay\npay 1 2\npay 01\nbuy 1 x 2\ninject 2 0F\nbuy 1  2\nbag",
		"error 250 0", "error 250 0", "error 250 0", "error 251 5", "error 251 3", "error 251 7", "error 252 4", "error 252 6", "error 252 9", "error 252 6", "ok 0 4096")
	wantPlay(t, " \n"+strings.Repeat("a", 2201)+"\ninject 0 "+strings.Repeat("0", 2192)+"\ninject 0 "+strings.Repeat("00", 1025)+"\nbag",
		"error 250 0", "error 1 0", "error 1 0", "error 1", "ok 0 4096")
	wantPlay(t, "pay 0\npay 1\nbuy 0 1 1\ninject 0 -\nstate\x00", "error 230", "error 230", "error 260", "error 90", "error 250 0")
	var text string
	var want []string
	for _, x := range busyLines {
		line, answer, _ := strings.Cut(x, " -> ")
		text, want = text+line+"\n", append(want, answer)
	}
	wantPlay(t, text, want...)
}

// TestPlayApartP26_14: one text, played twice, answers the same; nothing is left from one play to the next.
func TestPlayApartP26_14(t *testing.T) {
	text := "buy 1 3 100\ndeliver 1\ncrash 3 1 0\ndeliver 2\nstate\nrestart 3"
	for range 3 {
		wantPlay(t, text, "ok 1 1", "ok 1 2", "ok", down, "ok 1 1 1 0 1", "ok")
	}
}

// words are what texts by chance are made of: pieces of lines, good and bad ones.
var words = []string{
	"buy", "ride", "gossip", "sync", "freeze", "pay", "revoke", "floor", "deliver", "drop", "double", "inject", "crash", "restart", "head", "row", "carnet", "purse", "money", "bag", "state",
	" ", " ", " ", " ", " ", " ", "\n", "\n", "\n", "\n", "#", "-", "0", "1", "2", "3", "01", "-1", "100", "999999999999999999", "00ff", "46420109", "\r", "\t", "\x00", "\xff", "é", "what",
}

// anyText is a text by chance; most of its lines are commands.
func anyText(seed uint64) []byte {
	r := chance(seed)
	var text []byte
	for range 5 + r.IntN(60) {
		if r.IntN(4) > 0 {
			o := api.Op{Kind: 1 + r.IntN(21), Node: r.IntN(6) - 1, Other: r.IntN(4), Count: r.IntN(5), Price: int64(r.IntN(9)), Body: []byte{'F', 'B', 1, byte(r.IntN(12))}}
			line, _ := script.Format(o)
			text = append(text, line+"\n"...)
			continue
		}
		for range r.IntN(6) {
			text = append(text, words[r.IntN(len(words))]...)
		}
	}
	return text
}

// TestAnyTextW1: any bytes are answered: a reply for each command line, the same as of its operation, or why it is none.
func TestAnyTextW1(t *testing.T) {
	met := map[api.Errno]int{}
	for n := range uint64(150) {
		text := anyText(n)
		replies, err := fleet.Play(config, text)
		lines := script.Lines(text)
		if err != api.OK || len(replies) != len(lines) {
			t.Fatalf("W1: Play(%q) = %d replies to %d lines, %d", text, len(replies), len(lines), err)
		}
		r := begin(t, config)
		all := ""
		for i, line := range lines {
			o, err, place := script.Parse(line)
			want := api.Reply{Err: err, Nums: []int64{int64(place)}}
			if err == api.OK {
				want = r.f.Do(o)
			}
			if !sameReply(replies[i], want) {
				t.Fatalf("W1: line %d, %q, of %q = %s, want %s", i, line, text, script.Show(replies[i]), script.Show(want))
			}
			met[want.Err]++
			all += script.Show(want) + "\n"
		}
		if got := fleet.Text(config, text); got != all {
			t.Fatalf("W1: Text(%q) = %q, want %q", text, got, all)
		}
	}
	for _, err := range []api.Errno{api.OK, api.ErrArg, api.ErrNode, api.ErrNoMsg, api.ErrSerial, api.ErrPurse, api.ErrWord, api.ErrFields, api.ErrNumber, api.ErrForm, api.ErrDomain} {
		if met[err] == 0 {
			t.Errorf("no line has answered %d: %v", err, met)
		}
	}
}

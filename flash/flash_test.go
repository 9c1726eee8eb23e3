package flash_test

import (
	"math"
	"strconv"
	"strings"
	"testing"

	"farebox/api"
	"farebox/flash"
)

const maxFlash = 1048576

// outside are numbers that are no bank.
func outside() []int {
	return []int{-1, 2, 3, -2, 256, 257, 1 << 32, 1<<32 + 1, math.MaxInt, math.MinInt, math.MinInt + 1}
}

// TestExamplesP12: the chapter's table, row by row.
func TestExamplesP12(t *testing.T) {
	f := flash.New(8)
	wantErr(t, "Append", f.Append(0, []byte("abc")), api.OK)
	if n, err := f.Room(0); n != 5 || err != api.OK {
		t.Errorf("Room(0) = %d, %d, want 5, OK", n, err)
	}
	wantErr(t, "six more", f.Append(0, []byte("defghi")), api.ErrFull)
	wantErr(t, "bank 2", f.Append(2, []byte("x")), api.ErrBank)
	wantErr(t, "Arm(2, 1)", f.Arm(2, 1), api.OK)
	wantErr(t, "Arm(1, 2)", f.Arm(1, 2), api.OK)
	wantErr(t, "the first write", f.Append(1, []byte("xyz")), api.OK)
	wantFiles(t, "the first write", f, "abc", "xyz")
	wantErr(t, "the second write", f.Append(0, []byte("de")), api.ErrDown)
	wantFiles(t, "the second write", f, "abcd", "xyz")
	if b, err := f.Read(0); !f.Down() || f.Writes() != 3 || b != nil || err != api.ErrDown {
		t.Errorf("down: %v, %d writes, Read %q, %d", f.Down(), f.Writes(), b, err)
	}
	wantErr(t, "Restart", f.Restart(), api.OK)
	wantErr(t, "Restart once more", f.Restart(), api.ErrUp)
	wantErr(t, "an Erase cut off", f.Erase(1), api.ErrDown)
	wantFiles(t, "an Erase cut off", f, "abcd", "\xff\xffz")
	wantErr(t, "Restart", f.Restart(), api.OK)
	wantErr(t, "Erase", f.Erase(1), api.OK)
	wantErr(t, "Erase of an empty bank", f.Erase(1), api.OK)
	if f.Writes() != 6 {
		t.Errorf("Writes = %d, want 6", f.Writes())
	}
	wantFiles(t, "two Erases", f, "abcd", "")
	wantErr(t, "Arm(1, 4)", f.Arm(1, 4), api.OK)
	wantErr(t, "Erase of all four", f.Erase(0), api.ErrDown)
	wantFiles(t, "Erase of all four", f, "", "")
	for _, c := range [][2]int{{0, 0}, {1000001, 0}, {1, -1}, {1, 1048577}} {
		wantErr(t, "Arm out of range", f.Arm(c[0], c[1]), api.ErrArg)
	}
	f = flash.New(-5)
	wantErr(t, "a byte to no room", f.Append(0, []byte("a")), api.ErrFull)
	wantErr(t, "no bytes to no room", f.Append(0, nil), api.OK)
	f = flash.Load(2, []byte("abc"), []byte("d"))
	wantFiles(t, "Load", f, "ab", "d")
	if f.Down() || f.Writes() != 0 {
		t.Errorf("Load: down %v, %d writes", f.Down(), f.Writes())
	}
}

// TestSizesP12_1: a new flash is empty and up, and its size is brought into its range.
func TestSizesP12_1(t *testing.T) {
	for _, c := range [][2]int{
		{math.MinInt, 0}, {-1 << 32, 0}, {-5, 0}, {-1, 0}, {0, 0}, {1, 1}, {2, 2}, {512, 512},
		{maxFlash - 1, maxFlash - 1}, {maxFlash, maxFlash}, {maxFlash + 1, maxFlash}, {1 << 32, maxFlash}, {math.MaxInt, maxFlash},
	} {
		for name, f := range map[string]*flash.Flash{"New": flash.New(c[0]), "Load": flash.Load(c[0], nil, []byte{})} {
			what := name + " of " + strconv.Itoa(c[0])
			wantSame(t, what, f, &model{size: c[1]})
			for bank := range 2 {
				wantErr(t, what+": one byte more", f.Append(bank, make([]byte, c[1]+1)), api.ErrFull)
				wantErr(t, what+": just the size", f.Append(bank, make([]byte, c[1])), api.OK)
				wantErr(t, what+": no bytes", f.Append(bank, nil), api.OK)
			}
			wantErr(t, what+": up", f.Restart(), api.ErrUp)
		}
	}
}

// TestLoadP12_1: of more bytes than the size the first so many, of either bank by itself.
func TestLoadP12_1(t *testing.T) {
	texts := []string{"", "a", "bcd", "efgh", "ijklm", "nopqrstuvwxyz"}
	for _, size := range []int{-1, 0, 1, 3, 4, 5, 100} {
		for _, first := range texts {
			for _, second := range texts {
				p := pairOf(t, size, first, second)
				wantErr(t, "up", p.f.Restart(), api.ErrUp)
				p.append(0, "x")
				p.append(1, "y")
			}
		}
	}
	long := strings.Repeat("0123456789abcdef", maxFlash/16)
	wantFiles(t, "Load of MaxFlash", flash.Load(maxFlash, []byte(long), []byte(long+"x")), long, long)
	wantFiles(t, "Load of more", flash.Load(math.MaxInt, []byte(long+"x"), []byte("x"+long)), long, "x"+long[:maxFlash-1])
}

// TestAppendP12_2: what is there stays, and the bytes join its end; just the room is taken, one byte more is not.
func TestAppendP12_2(t *testing.T) {
	for bank := range 2 {
		p := pairOf(t, 10, "abc", "de")
		room := 7 + bank
		p.append(bank, "")
		p.append(bank, strings.Repeat("x", room+1))
		p.append(bank, "pq")
		p.append(bank, strings.Repeat("y", room-1))
		p.append(bank, strings.Repeat("z", room-2))
		p.append(bank, "w")
		p.append(bank, "")
		wantFiles(t, "full", p.f, []string{"abcpqzzzzz", "abc"}[bank], []string{"de", "depqzzzzzz"}[bank])
	}
	f := flash.New(4)
	for _, bank := range outside() {
		wantErr(t, "Append to bank "+strconv.Itoa(bank), f.Append(bank, []byte("a")), api.ErrBank)
		wantErr(t, "Append of nothing to bank "+strconv.Itoa(bank), f.Append(bank, nil), api.ErrBank)
		wantErr(t, "Append of too much to bank "+strconv.Itoa(bank), f.Append(bank, make([]byte, 5)), api.ErrBank)
	}
	wantSame(t, "refused", f, &model{size: 4})
}

// TestTornAppendP12_2: at a write at which the flash goes down the first keep bytes join.
func TestTornAppendP12_2(t *testing.T) {
	for _, held := range []string{"", "abc", "abcdefgh"} {
		for _, b := range []string{"", "x", "vwxyz", strings.Repeat("q", 8-len(held))} {
			for _, keep := range []int{0, 1, len(b) / 2, max(len(b)-1, 0), len(b), len(b) + 1, maxFlash} {
				for bank := range 2 {
					p := pairOf(t, 8, held, held)
					p.arm(1, keep)
					p.append(bank, strings.Repeat("u", 9-len(held))) // refused, and not counted
					p.append(bank, b)
					p.restart()
					p.append(bank, b)
				}
			}
		}
	}
	f := flash.Load(8, []byte("abc"), nil)
	f.Arm(1, 2)
	wantErr(t, "just the room, two bytes of it", f.Append(0, []byte("vwxyz")), api.ErrDown)
	wantFiles(t, "just the room, two bytes of it", f, "abcvw", "")
}

// TestEraseP12_3: an Erase empties its bank alone.
func TestEraseP12_3(t *testing.T) {
	for bank := range 2 {
		p := pairOf(t, 4, "abcd", "efg")
		p.erase(bank)
		p.erase(bank)
		p.append(bank, "xyzw")
		p.erase(1 - bank)
		p.erase(bank)
	}
	f := flash.Load(4, []byte("abcd"), []byte("efg"))
	for _, bank := range outside() {
		wantErr(t, "Erase of bank "+strconv.Itoa(bank), f.Erase(bank), api.ErrBank)
	}
	wantSame(t, "refused", f, modelOf(4, "abcd", "efg"))
	empty := flash.New(0)
	wantErr(t, "Erase of a bank of no size", empty.Erase(1), api.OK)
}

// TestTornEraseP12_3: a beginning turns to 0xFF; where that would be all, the bank is empty.
func TestTornEraseP12_3(t *testing.T) {
	for _, held := range []string{"", "a", "abcd", "abcdefgh"} {
		for _, keep := range []int{0, 1, len(held) / 2, max(len(held)-1, 0), len(held), len(held) + 1, maxFlash} {
			for bank := range 2 {
				p := pairOf(t, 8, held, held)
				p.arm(1, keep)
				p.erase(bank)
				p.restart()
				p.append(bank, "z")
				p.erase(bank)
			}
		}
	}
	for keep, want := range []string{"abcd", "\xffbcd", "\xff\xffcd", "\xff\xff\xffd", "", ""} {
		f := flash.Load(4, []byte("abcd"), []byte("efgh"))
		f.Arm(1, keep)
		wantErr(t, "Erase", f.Erase(0), api.ErrDown)
		wantFiles(t, "keep "+strconv.Itoa(keep), f, want, "efgh")
	}
}

// TestTwiceTornP12_3: what a cut-off Erase has left may be cut off once more, and is appended to.
func TestTwiceTornP12_3(t *testing.T) {
	f := flash.Load(6, []byte("abcdef"), nil)
	f.Arm(1, 3)
	f.Arm(1, 1)
	f.Arm(1, 5)
	for _, want := range []string{"\xff\xff\xffdef", "\xff\xff\xffdef", "\xff\xff\xff\xff\xfff"} {
		wantErr(t, "Erase", f.Erase(0), api.ErrDown)
		wantFiles(t, "Erase", f, want, "")
		f.Restart()
	}
	wantErr(t, "a torn bank is as full as it was", f.Append(0, []byte("g")), api.ErrFull)
	wantErr(t, "Erase", f.Erase(0), api.OK)
	wantErr(t, "Append", f.Append(0, []byte("ghijkl")), api.OK)
	wantFiles(t, "erased and filled", f, "ghijkl", "")
}

// TestReadRoomP12_4: the bank's bytes, and what it still takes; beside an error nothing.
func TestReadRoomP12_4(t *testing.T) {
	p := pairOf(t, 7, "abc", "defghij")
	p.append(0, "k")
	p.erase(1)
	p.arm(1, 2)
	p.append(1, "lmn")
	p.restart()
	for _, bank := range outside() {
		if b, err := p.f.Read(bank); b != nil || err != api.ErrBank {
			t.Errorf("Read(%d) = %q, %d", bank, b, err)
		}
		if n, err := p.f.Room(bank); n != 0 || err != api.ErrBank {
			t.Errorf("Room(%d) = %d, %d", bank, n, err)
		}
	}
	wantSame(t, "Read and Room change nothing", p.f, p.m)
}

// TestDownP12: a flash that is down refuses all but what may be asked of it then, and stays as it is.
func TestDownP12(t *testing.T) {
	p := pairOf(t, 5, "ab", "cde")
	p.arm(1, 1)
	p.append(0, "xy")
	if !p.f.Down() {
		t.Fatal("the flash is up")
	}
	for _, bank := range []int{0, 1} {
		for _, b := range []string{"", "f", "fgh", strings.Repeat("g", 99)} {
			p.append(bank, b)
		}
		p.erase(bank)
	}
	for _, bank := range outside() {
		p.append(bank, strings.Repeat("g", 99))
		p.append(bank, "")
		p.erase(bank)
	}
	wantErr(t, "Arm", p.f.Arm(1, 0), api.OK)
	p.f.Disarm()
	wantFiles(t, "down", p.f, "abx", "cde")
	if p.f.Writes() != 1 {
		t.Errorf("Writes = %d, want 1", p.f.Writes())
	}
	p.restart()
	p.append(0, "z")
}

package wire_test

import (
	"bytes"
	"encoding/binary"
	"encoding/hex"
	"math"
	"math/rand/v2"
	"slices"
	"strings"
	"testing"

	"farebox/api"
	"farebox/wire"
)

// chance is a source of numbers that are the same in every run.
func chance(n uint64) *rand.Rand { return rand.New(rand.NewPCG(9, n)) }

// someBytes is n bytes of chance.
func someBytes(r *rand.Rand, n int) []byte {
	b := make([]byte, n)
	for i := range b {
		b[i] = byte(r.Uint32())
	}
	return b
}

// unhex reads the hex of a test's table, in which blanks may stand.
func unhex(text string) []byte {
	b, err := hex.DecodeString(strings.ReplaceAll(text, " ", ""))
	if err != nil {
		panic(err)
	}
	return b
}

// edgeNumbers are each power of two, 0, the greatest number, and those beside them.
func edgeNumbers() []uint64 {
	list := []uint64{0, 300, 1<<32 - 1, math.MaxUint64}
	for i := range 64 {
		list = append(list, 1<<i-1, 1<<i, 1<<i+1)
	}
	return list
}

// written is what a Writer is told by a function, and its fault.
func written(write func(w *wire.Writer)) ([]byte, api.Errno) {
	w := wire.NewWriter()
	write(w)
	return w.Done()
}

// wantWritten asks that a function lays down these bytes behind others, without a fault.
func wantWritten(t *testing.T, what string, want []byte, write func(w *wire.Writer)) {
	t.Helper()
	for _, ahead := range [][]byte{nil, {0}, {0xff, 0x80}} {
		got, err := written(func(w *wire.Writer) {
			w.Fixed(ahead)
			write(w)
		})
		if whole := append(slices.Clone(ahead), want...); !bytes.Equal(got, whole) || err != api.OK {
			t.Errorf("%s behind % x: % x, %d, want % x, OK", what, ahead, got, err, whole)
		}
	}
}

// wantLong asks that a function makes the fault ErrLong, behind which nothing is told.
func wantLong(t *testing.T, what string, write func(w *wire.Writer)) {
	t.Helper()
	w := wire.NewWriter()
	w.Byte(7)
	write(w)
	wantStuckWriter(t, what, w)
}

// wantStuckWriter asks that a Writer has the fault ErrLong, and that no call changes it any more.
func wantStuckWriter(t *testing.T, what string, w *wire.Writer) {
	t.Helper()
	calls := []func(){
		func() {},
		func() { w.Byte(1) },
		func() { w.U32(1) },
		func() { w.U64(1) },
		func() { w.Uint(1) },
		func() { w.Uint(math.MaxUint64) },
		func() { w.Bool(true) },
		func() { w.Bool(false) },
		func() { w.Fixed([]byte("ab")) },
		func() { w.Bytes([]byte("ab"), 2) },
		func() { w.Bytes([]byte("ab"), 1) },
		func() {
			wire.PutList(w, []int{1}, 1, func(*wire.Writer, int) { t.Errorf("%s: put is called behind a fault", what) })
		},
		func() {
			wire.PutList(w, []int{1}, 0, func(*wire.Writer, int) { t.Errorf("%s: put is called behind a fault", what) })
		},
		func() { wire.PutList(w, []int{}, 0, func(*wire.Writer, int) {}) },
	}
	for i, call := range calls {
		call()
		if b, err := w.Done(); len(b) != 0 || err != api.ErrLong {
			t.Errorf("%s, call %d behind it: % x, %d, want no bytes, ErrLong", what, i, b, err)
		}
	}
}

// wantStuckReader asks that a Reader has this fault and so many bytes left, and that no call changes it any more or answers anything.
func wantStuckReader(t *testing.T, what string, r *wire.Reader, left int, fault api.Errno) {
	t.Helper()
	calls := []func() bool{
		func() bool { return true },
		func() bool { return r.Byte() == 0 },
		func() bool { return r.U32() == 0 },
		func() bool { return r.U64() == 0 },
		func() bool { return r.Uint() == 0 },
		func() bool { return !r.Bool() },
		func() bool { return len(r.Fixed(0)) == 0 },
		func() bool { return len(r.Fixed(1)) == 0 },
		func() bool { return len(r.Fixed(-1)) == 0 },
		func() bool { return len(r.Fixed(left)) == 0 },
		func() bool { return len(r.Bytes(math.MaxInt)) == 0 },
		func() bool { return len(r.Bytes(-1)) == 0 },
		func() bool {
			none := func(*wire.Reader) int {
				t.Errorf("%s: get is called behind a fault", what)
				return 1
			}
			return len(wire.GetList(r, math.MaxInt, none)) == 0 && len(wire.GetList(r, -1, none)) == 0
		},
	}
	for i, call := range calls {
		if ok, n, err := call(), r.Left(), r.Done(); !ok || n != left || err != fault {
			t.Errorf("%s, call %d behind it: answers nothing %v, %d left, %d, want true, %d, %d", what, i, ok, n, err, left, fault)
		}
	}
}

func putByte(w *wire.Writer, x byte) { w.Byte(x) }

func getByte(r *wire.Reader) byte { return r.Byte() }

func TestExamplesWrite(t *testing.T) {
	for _, c := range []struct {
		what  string
		want  string
		write func(w *wire.Writer)
	}{
		{"Uint of 0", "00", func(w *wire.Writer) { w.Uint(0) }},
		{"Uint of 127", "7f", func(w *wire.Writer) { w.Uint(127) }},
		{"Uint of 128", "80 01", func(w *wire.Writer) { w.Uint(128) }},
		{"Uint of 300", "ac 02", func(w *wire.Writer) { w.Uint(300) }},
		{"Uint of the greatest", strings.Repeat("ff", 9) + "01", func(w *wire.Writer) { w.Uint(18446744073709551615) }},
		{"Bytes(ab, 2)", "02 61 62", func(w *wire.Writer) { w.Bytes([]byte("ab"), 2) }},
		{"Bytes(none, 0)", "00", func(w *wire.Writer) { w.Bytes(nil, 0) }},
		{"U32 of 258", "00 00 01 02", func(w *wire.Writer) { w.U32(258) }},
	} {
		wantWritten(t, c.what, unhex(c.want), c.write)
	}
	wantLong(t, "Bytes(ab, 1)", func(w *wire.Writer) { w.Bytes([]byte("ab"), 1) })
	wantLong(t, "Bytes(none, -1)", func(w *wire.Writer) { w.Bytes(nil, -1) })
}

func TestExamplesRead(t *testing.T) {
	r := wire.NewReader(unhex("80 00"))
	if x, left, err := r.Uint(), r.Left(), r.Done(); x != 0 || left != 2 || err != api.ErrForm {
		t.Errorf("Uint of 80 00: %d, %d left, %d", x, left, err)
	}
	r = wire.NewReader(unhex(strings.Repeat("ff", 9) + "02"))
	if x, err := r.Uint(), r.Done(); x != 0 || err != api.ErrForm {
		t.Errorf("Uint beyond a uint64: %d, %d", x, err)
	}
	r = wire.NewReader(unhex("02 61"))
	if b, left, err := r.Bytes(5), r.Left(), r.Done(); len(b) != 0 || left != 2 || err != api.ErrForm {
		t.Errorf("Bytes(5) of 02 61: % x, %d left, %d", b, left, err)
	}
	for _, behind := range []string{"", "61", "616263646566", "61626364656667"} {
		r = wire.NewReader(unhex("06" + behind))
		if b, err := r.Bytes(5), r.Done(); len(b) != 0 || err != api.ErrLong {
			t.Errorf("Bytes(5) of 06 %s: % x, %d", behind, b, err)
		}
	}
	r = wire.NewReader(unhex("01 02"))
	if a, b, x, left, err := r.Bool(), r.Bool(), r.Byte(), r.Left(), r.Done(); !a || b || x != 0 || left != 1 || err != api.ErrForm {
		t.Errorf("01 02: %v, %v, %d, %d left, %d", a, b, x, left, err)
	}
	r = wire.NewReader(unhex("03 05"))
	if list, err := wire.GetList(r, 9, getByte), r.Done(); len(list) != 0 || err != api.ErrForm {
		t.Errorf("a list of 03 05: %v, %d", list, err)
	}
	r = wire.NewReader(unhex("02 05 07"))
	if list, err := wire.GetList(r, 9, getByte), r.Done(); !slices.Equal(list, []byte{5, 7}) || err != api.OK {
		t.Errorf("a list of 02 05 07: %v, %d", list, err)
	}
}

func TestExamplesHeads(t *testing.T) {
	for domain, want := range map[int]string{3: "46 42 01 03", 0: "", 256: ""} {
		if head := wire.Head(domain); !bytes.Equal(head, unhex(want)) {
			t.Errorf("Head(%d) = % x", domain, head)
		}
	}
	if domain, at, err := wire.ReadHead(unhex("46 42 01 03 ff")); domain != 3 || at != 4 || err != api.OK {
		t.Errorf("ReadHead: %d, %d, %d", domain, at, err)
	}
	for _, text := range []string{"46 42 02 03", "46 42 01"} {
		if domain, at, err := wire.ReadHead(unhex(text)); domain != 0 || at != 0 || err != api.ErrForm {
			t.Errorf("ReadHead(%s): %d, %d, %d", text, domain, at, err)
		}
	}
}

func TestWriteNumbersP91(t *testing.T) {
	for _, x := range edgeNumbers() {
		wantWritten(t, "Byte", []byte{byte(x)}, func(w *wire.Writer) { w.Byte(byte(x)) })
		wantWritten(t, "U32", binary.BigEndian.AppendUint32(nil, uint32(x)), func(w *wire.Writer) { w.U32(uint32(x)) })
		wantWritten(t, "U64", binary.BigEndian.AppendUint64(nil, x), func(w *wire.Writer) { w.U64(x) })
		wantWritten(t, "Uint", binary.AppendUvarint(nil, x), func(w *wire.Writer) { w.Uint(x) })
	}
	wantWritten(t, "Bool", []byte{0, 1, 1, 0}, func(w *wire.Writer) {
		w.Bool(false)
		w.Bool(true)
		w.Bool(true)
		w.Bool(false)
	})
}

func TestWriteBytesP91(t *testing.T) {
	source := chance(1)
	for _, n := range []int{0, 1, 2, 127, 128, 129, 300, 16383, 16384, 20000} {
		b := someBytes(source, n)
		counted := append(binary.AppendUvarint(nil, uint64(n)), b...)
		wantWritten(t, "Fixed", b, func(w *wire.Writer) { w.Fixed(b) })
		for _, most := range []int{n, n + 1, math.MaxInt} {
			wantWritten(t, "Bytes", counted, func(w *wire.Writer) { w.Bytes(b, most) })
		}
		for _, most := range []int{n - 1, -1, -2, math.MinInt + 1, math.MinInt} {
			wantLong(t, "Bytes", func(w *wire.Writer) { w.Bytes(b, most) })
		}
	}
	wantWritten(t, "Fixed of nil", nil, func(w *wire.Writer) { w.Fixed(nil) })
	wantWritten(t, "Fixed of an empty list", nil, func(w *wire.Writer) { w.Fixed([]byte{}) })
	wantWritten(t, "Bytes of an empty list", []byte{0}, func(w *wire.Writer) { w.Bytes([]byte{}, 0) })
}

func TestDoneOfWriterP92(t *testing.T) {
	if b, err := wire.NewWriter().Done(); len(b) != 0 || err != api.OK {
		t.Errorf("an empty Writer: % x, %d", b, err)
	}
	w := wire.NewWriter()
	w.Bytes([]byte("ab"), 9)
	first, err := w.Done()
	again, errAgain := w.Done()
	if want := unhex("026162"); !bytes.Equal(first, want) || !bytes.Equal(again, want) || err != api.OK || errAgain != api.OK {
		t.Fatalf("Done: % x, %d; % x, %d", first, err, again, errAgain)
	}
	w.U32(258)
	if whole, err := w.Done(); !bytes.Equal(whole, unhex("02616200000102")) || err != api.OK {
		t.Errorf("Done behind a Done: % x, %d", whole, err)
	}
	w.Bytes([]byte("ab"), 1)
	if b, err := w.Done(); len(b) != 0 || err != api.ErrLong {
		t.Errorf("Done behind a fault: % x, %d", b, err)
	}
	if !bytes.Equal(first, unhex("026162")) {
		t.Errorf("an earlier Done has become % x", first)
	}
}

func TestDoneOfWriterIsNewMemoryP92(t *testing.T) {
	for n := range 70 {
		w := wire.NewWriter()
		for i := range n {
			w.Byte(byte(i))
		}
		want, _ := w.Done()
		spoilt, _ := w.Done()
		for i := range spoilt {
			spoilt[i] ^= 0xff
		}
		// Whoever lays something behind an answer must not write where the Writer writes.
		_ = append(spoilt, 0xee, 0xee, 0xee)
		w.Byte(0x55)
		_ = append(spoilt, 0xdd, 0xdd, 0xdd)
		if got, _ := w.Done(); !bytes.Equal(got, append(slices.Clone(want), 0x55)) {
			t.Fatalf("behind a spoilt answer of %d bytes: % x", n, got)
		}
	}
}

func TestReadNumbersP93(t *testing.T) {
	for _, x := range edgeNumbers() {
		r := wire.NewReader(slices.Concat([]byte{byte(x)}, binary.BigEndian.AppendUint32(nil, uint32(x)), binary.BigEndian.AppendUint64(nil, x), binary.AppendUvarint(nil, x)))
		if a, b, c, d := r.Byte(), r.U32(), r.U64(), r.Uint(); a != byte(x) || b != uint32(x) || c != x || d != x {
			t.Errorf("of %d: %d, %d, %d, %d", x, a, b, c, d)
		}
		if r.Left() != 0 || r.Done() != api.OK {
			t.Errorf("of %d: %d left, %d", x, r.Left(), r.Done())
		}
	}
}

func TestReadTooFewP93(t *testing.T) {
	for _, c := range []struct {
		what string
		need int
		read func(r *wire.Reader) bool
	}{
		{"Byte", 1, func(r *wire.Reader) bool { return r.Byte() != 0 }},
		{"U32", 4, func(r *wire.Reader) bool { return r.U32() != 0 }},
		{"U64", 8, func(r *wire.Reader) bool { return r.U64() != 0 }},
		{"Bool", 1, func(r *wire.Reader) bool { return r.Bool() }},
		{"Fixed", 5, func(r *wire.Reader) bool { return len(r.Fixed(5)) != 0 }},
	} {
		for n := range c.need {
			r := wire.NewReader(bytes.Repeat([]byte{1}, n))
			if c.read(r) {
				t.Errorf("%s of %d bytes answers something", c.what, n)
			}
			wantStuckReader(t, c.what, r, n, api.ErrForm)
		}
		r := wire.NewReader(bytes.Repeat([]byte{1}, c.need+1))
		if !c.read(r) || r.Left() != 1 || r.Done() != api.ErrForm {
			t.Errorf("%s of a byte more than it needs: %d left, %d", c.what, r.Left(), r.Done())
		}
	}
}

func TestReadBoolP93(t *testing.T) {
	for x := range 256 {
		r := wire.NewReader([]byte{byte(x)})
		got := r.Bool()
		if x > 1 {
			if got {
				t.Errorf("Bool of %d is true", x)
			}
			wantStuckReader(t, "Bool", r, 1, api.ErrForm)
		} else if got != (x == 1) || r.Left() != 0 || r.Done() != api.OK {
			t.Errorf("Bool of %d: %v, %d left, %d", x, got, r.Left(), r.Done())
		}
	}
}

// refusedShorts are bytes that do not begin with a short form.
func refusedShorts() [][]byte {
	list := [][]byte{nil}
	for n := 1; n <= 9; n++ {
		for _, filler := range []byte{0x80, 0x81, 0xff} {
			begun := bytes.Repeat([]byte{filler}, n)
			list = append(list,
				begun,                             // ends within it
				append(slices.Clone(begun), 0),    // not the shortest
				append(slices.Clone(begun), 0, 1), // what stands behind it does not help
			)
		}
	}
	for _, filler := range []byte{0x80, 0x81, 0xff} {
		nine := bytes.Repeat([]byte{filler}, 9)
		for last := 2; last < 256; last++ { // beyond a uint64
			list = append(list, append(slices.Clone(nine), byte(last)))
		}
		for _, tenth := range []byte{0x80, 0x81, 0x82, 0xff} { // longer than any
			for _, last := range []byte{0, 1, 2, 0x7f, 0x80, 0xff} {
				list = append(list, append(slices.Clone(nine), tenth, last), append(slices.Clone(nine), tenth, last, 0), append(slices.Clone(nine), tenth, tenth, tenth, last))
			}
		}
	}
	return append(list, bytes.Repeat([]byte{0x80}, 100), append(bytes.Repeat([]byte{0x80}, 100), 1))
}

func TestReadUintRefusedP93(t *testing.T) {
	for _, b := range refusedShorts() {
		r := wire.NewReader(b)
		if x := r.Uint(); x != 0 {
			t.Errorf("Uint of % x: %d", b, x)
		}
		wantStuckReader(t, "Uint", r, len(b), api.ErrForm)
	}
}

func TestReadUintGreatestP93(t *testing.T) {
	for text, want := range map[string]uint64{
		strings.Repeat("ff", 9) + "01": math.MaxUint64,
		strings.Repeat("80", 9) + "01": 1 << 63,
		strings.Repeat("ff", 8) + "7f": 1<<63 - 1,
		strings.Repeat("80", 8) + "01": 1 << 56,
	} {
		r := wire.NewReader(append(unhex(text), 0))
		if x := r.Uint(); x != want || r.Left() != 1 {
			t.Errorf("Uint of %s: %d, %d left", text, x, r.Left())
		}
	}
}

func TestReadFixedP93(t *testing.T) {
	b := someBytes(chance(2), 40)
	for n := range len(b) + 1 {
		r := wire.NewReader(b)
		if got := r.Fixed(n); !bytes.Equal(got, b[:n]) || r.Left() != len(b)-n {
			t.Errorf("Fixed(%d): % x, %d left", n, got, r.Left())
		}
		if rest := r.Fixed(len(b) - n); !bytes.Equal(rest, b[n:]) || r.Done() != api.OK {
			t.Errorf("the rest behind Fixed(%d): % x, %d", n, rest, r.Done())
		}
	}
	for _, n := range []int{-1, -2, math.MinInt, math.MinInt + 1, 41, math.MaxInt - 1, math.MaxInt} {
		r := wire.NewReader(b)
		if got := r.Fixed(n); len(got) != 0 {
			t.Errorf("Fixed(%d): % x", n, got)
		}
		wantStuckReader(t, "Fixed", r, 40, api.ErrForm)
	}
	r := wire.NewReader(nil)
	if got := r.Fixed(0); len(got) != 0 || r.Done() != api.OK {
		t.Errorf("Fixed(0) of nothing: % x, %d", got, r.Done())
	}
	if got := r.Fixed(-1); len(got) != 0 {
		t.Errorf("Fixed(-1) of nothing: % x", got)
	}
	wantStuckReader(t, "Fixed(-1) of nothing", r, 0, api.ErrForm)
}

func TestReadBytesP93(t *testing.T) {
	source := chance(3)
	for _, n := range []int{0, 1, 2, 127, 128, 300, 16384} {
		told := append(binary.AppendUvarint(nil, uint64(n)), someBytes(source, n+1)...)
		for _, most := range []int{n, n + 1, math.MaxInt} {
			r := wire.NewReader(told)
			if got := r.Bytes(most); !bytes.Equal(got, told[len(told)-n-1:len(told)-1]) || r.Left() != 1 || r.Done() != api.ErrForm {
				t.Errorf("Bytes(%d) of %d: % x, %d left, %d", most, n, got, r.Left(), r.Done())
			}
		}
		for _, most := range []int{n - 1, -1, math.MinInt + 1, math.MinInt} {
			r := wire.NewReader(told)
			if got := r.Bytes(most); len(got) != 0 {
				t.Errorf("Bytes(%d) of %d: % x", most, n, got)
			}
			wantStuckReader(t, "Bytes above most", r, len(told), api.ErrLong)
		}
		if n == 0 {
			continue
		}
		cut := told[:len(told)-2]
		r := wire.NewReader(cut)
		if got := r.Bytes(math.MaxInt); len(got) != 0 {
			t.Errorf("Bytes of %d that are not there: % x", n, got)
		}
		wantStuckReader(t, "Bytes that are not there", r, len(cut), api.ErrForm)
	}
}

// TestCountedP93P95: what the number says is refused alike ahead of bytes and ahead of a list.
func TestCountedP93P95(t *testing.T) {
	type row struct {
		number uint64
		behind int
		most   int
		fault  api.Errno
	}
	rows := []row{
		{1, 5, 0, api.ErrLong},
		{0, 5, -1, api.ErrLong},
		{0, 0, math.MinInt, api.ErrLong},
		{4, 3, 3, api.ErrLong}, // above most and above the bytes: most is asked first
		{4, 3, 4, api.ErrForm},
		{1, 0, 1, api.ErrForm},
		{1, 0, 0, api.ErrLong},
		{1 << 40, 3, 1 << 40, api.ErrForm},
		{math.MaxInt, 3, math.MaxInt, api.ErrForm},
		{math.MaxInt, 3, math.MaxInt - 1, api.ErrLong},
	}
	for _, number := range []uint64{1 << 63, 1<<63 + 1, 1<<63 + 2, math.MaxUint64 - 1, math.MaxUint64} {
		for _, most := range []int{math.MaxInt, 5, 1, 0, -1, -2, math.MinInt, math.MinInt + 1} {
			rows = append(rows, row{number, 3, most, api.ErrLong})
		}
	}
	for _, c := range rows {
		told := append(binary.AppendUvarint(nil, c.number), bytes.Repeat([]byte{1}, c.behind)...)
		r := wire.NewReader(told)
		if got := r.Bytes(c.most); len(got) != 0 {
			t.Errorf("Bytes, %v: % x", c, got)
		}
		wantStuckReader(t, "Bytes", r, len(told), c.fault)
		r = wire.NewReader(told)
		if got := wire.GetList(r, c.most, getByte); len(got) != 0 {
			t.Errorf("GetList, %v: % x", c, got)
		}
		wantStuckReader(t, "GetList", r, len(told), c.fault)
	}
	for _, b := range refusedShorts() {
		for _, most := range []int{math.MaxInt, 0, -1} { // the number's refusal comes ahead of most
			r := wire.NewReader(b)
			if got := r.Bytes(most); len(got) != 0 {
				t.Errorf("Bytes of % x: % x", b, got)
			}
			wantStuckReader(t, "Bytes behind no number", r, len(b), api.ErrForm)
			r = wire.NewReader(b)
			if got := wire.GetList(r, most, getByte); len(got) != 0 {
				t.Errorf("GetList of % x: % x", b, got)
			}
			wantStuckReader(t, "GetList behind no number", r, len(b), api.ErrForm)
		}
	}
}

func TestLeftAndDoneP94(t *testing.T) {
	for _, b := range [][]byte{nil, {}} {
		if r := wire.NewReader(b); r.Left() != 0 || r.Done() != api.OK {
			t.Errorf("nothing: %d left, %d", r.Left(), r.Done())
		}
	}
	r := wire.NewReader([]byte{1, 2, 3})
	for left := 3; left > 0; left-- {
		// Done is asked again and again: that bytes are left is no fault that a Reader keeps.
		if r.Left() != left || r.Done() != api.ErrForm || r.Done() != api.ErrForm || r.Left() != left {
			t.Errorf("%d bytes are not read: %d left, %d", left, r.Left(), r.Done())
		}
		if x := r.Byte(); int(x) != 4-left {
			t.Errorf("Byte behind a Done: %d", x)
		}
	}
	if r.Left() != 0 || r.Done() != api.OK || r.Done() != api.OK {
		t.Errorf("all is read: %d left, %d", r.Left(), r.Done())
	}
	r.Byte()
	wantStuckReader(t, "Byte behind the end", r, 0, api.ErrForm)
	r = wire.NewReader([]byte{0})
	r.Bytes(-1)
	wantStuckReader(t, "the fault, not that bytes are left", r, 1, api.ErrLong)
}

func TestPutListP95(t *testing.T) {
	put := func(w *wire.Writer, text string) { w.Bytes([]byte(text), 3) }
	for _, c := range []struct {
		list []string
		want string
	}{
		{nil, "00"},
		{[]string{}, "00"},
		{[]string{""}, "01 00"},
		{[]string{"abc", "", "d"}, "03 03 616263 00 01 64"},
	} {
		for _, most := range []int{len(c.list), len(c.list) + 1, math.MaxInt} {
			wantWritten(t, "PutList", unhex(c.want), func(w *wire.Writer) { wire.PutList(w, c.list, most, put) })
		}
		for _, most := range []int{len(c.list) - 1, -1, math.MinInt} {
			wantLong(t, "PutList", func(w *wire.Writer) {
				wire.PutList(w, c.list, most, func(*wire.Writer, string) { t.Error("put is called for a list that is too long") })
			})
		}
	}
	long := make([]uint32, 200)
	want := binary.AppendUvarint(nil, 200)
	for i := range long {
		long[i] = uint32(i * i * 70000)
		want = binary.BigEndian.AppendUint32(want, long[i])
	}
	wantWritten(t, "a long list", want, func(w *wire.Writer) { wire.PutList(w, long, 200, (*wire.Writer).U32) })
	wantWritten(t, "elements that lay down nothing", []byte{2}, func(w *wire.Writer) {
		wire.PutList(w, []int{5, 6}, 2, func(*wire.Writer, int) {})
	})
}

func TestPutListFaultWithinP95(t *testing.T) {
	for at := range 5 {
		var seen []int
		wantLong(t, "a fault within a list", func(w *wire.Writer) {
			wire.PutList(w, []int{0, 1, 2, 3, 4}, 5, func(w *wire.Writer, i int) {
				seen = append(seen, i)
				w.Byte(byte(i))
				if i == at {
					w.Bytes(nil, -1)
				}
			})
		})
		if want := []int{0, 1, 2, 3, 4}[:at+1]; !slices.Equal(seen, want) {
			t.Errorf("put is called for %v, want %v", seen, want)
		}
	}
}

func TestPutListAsksDoneP95(t *testing.T) {
	var lengths []int
	wantWritten(t, "a Done within a list", unhex("03 050607"), func(w *wire.Writer) {
		lengths = nil
		wire.PutList(w, []byte{5, 6, 7}, 3, func(w *wire.Writer, x byte) {
			b, err := w.Done()
			if err != api.OK {
				t.Errorf("Done within a list: %d", err)
			}
			lengths = append(lengths, len(b))
			w.Byte(x)
		})
	})
	if want := []int{3, 4, 5}; !slices.Equal(lengths, want) { // behind two other bytes
		t.Errorf("Done within a list tells %v bytes, want %v", lengths, want)
	}
}

func TestGetListP95(t *testing.T) {
	get := func(r *wire.Reader) string { return string(r.Bytes(3)) }
	for _, c := range []struct {
		told string
		want []string
	}{
		{"00", nil},
		{"01 00", []string{""}},
		{"03 03 616263 00 01 64", []string{"abc", "", "d"}},
	} {
		for _, most := range []int{len(c.want), len(c.want) + 1, math.MaxInt} {
			r := wire.NewReader(unhex(c.told + "77"))
			if got := wire.GetList(r, most, get); !slices.Equal(got, c.want) || r.Left() != 1 {
				t.Errorf("GetList(%d) of %s: %q, %d left", most, c.told, got, r.Left())
			}
		}
	}
	r := wire.NewReader([]byte{2, 9, 9})
	if got := wire.GetList(r, 2, func(*wire.Reader) int { return 7 }); !slices.Equal(got, []int{7, 7}) || r.Left() != 2 {
		t.Errorf("elements that read nothing: %v, %d left", got, r.Left())
	}
	// The bytes behind the number bound it, not those that the elements will take.
	r = wire.NewReader([]byte{3, 9, 9})
	if got := wire.GetList(r, 3, func(*wire.Reader) int { return 7 }); len(got) != 0 {
		t.Errorf("more elements than bytes: %v", got)
	}
	wantStuckReader(t, "more elements than bytes", r, 3, api.ErrForm)
}

func TestGetListFaultWithinP95(t *testing.T) {
	elements := unhex("01 8001 7f ff7f 05")
	ends := []int{1, 3, 4, 6, 7}
	for at := range ends {
		begin := 0
		if at > 0 {
			begin = ends[at-1]
		}
		told := slices.Concat([]byte{5}, elements[:begin], bytes.Repeat([]byte{0x80}, 5))
		calls := 0
		r := wire.NewReader(told)
		got := wire.GetList(r, 5, func(r *wire.Reader) uint64 {
			calls++
			return r.Uint()
		})
		if len(got) != 0 || calls != at+1 {
			t.Errorf("a fault at element %d: %v behind %d calls", at, got, calls)
		}
		// The number and the elements ahead of the fault stay read.
		wantStuckReader(t, "a fault within a list", r, 5, api.ErrForm)
	}
	r := wire.NewReader(unhex("02 0105 0106 09"))
	got := wire.GetList(r, 2, func(r *wire.Reader) []byte {
		if r.Left() == 3 {
			return r.Bytes(0)
		}
		return r.Bytes(1)
	})
	if len(got) != 0 {
		t.Errorf("a fault at the last element: %v", got)
	}
	wantStuckReader(t, "a fault at the last element", r, 3, api.ErrLong)
}

func TestNestedListsP95(t *testing.T) {
	lists := [][]byte{{1, 2}, {}, {3}}
	told := unhex("03 020102 00 0103")
	wantWritten(t, "lists of lists", told, func(w *wire.Writer) {
		wire.PutList(w, lists, 3, func(w *wire.Writer, list []byte) { wire.PutList(w, list, 2, putByte) })
	})
	inner := func(most int) func(r *wire.Reader) []byte {
		return func(r *wire.Reader) []byte { return wire.GetList(r, most, getByte) }
	}
	r := wire.NewReader(told)
	if got := wire.GetList(r, 3, inner(2)); len(got) != 3 || !slices.EqualFunc(got, lists, bytes.Equal) || r.Done() != api.OK {
		t.Errorf("lists of lists: %v, %d", got, r.Done())
	}
	r = wire.NewReader(told)
	if got := wire.GetList(r, 3, inner(1)); len(got) != 0 {
		t.Errorf("an inner list that is too long: %v", got)
	}
	wantStuckReader(t, "an inner list that is too long", r, 6, api.ErrLong)
	wantLong(t, "an inner list that is too long", func(w *wire.Writer) {
		wire.PutList(w, lists, 3, func(w *wire.Writer, list []byte) { wire.PutList(w, list, 1, putByte) })
	})
}

func TestHeadP96(t *testing.T) {
	for _, domain := range []int{0, -1, -255, -256, 256, 257, 511, 512, 1 << 32, 1<<32 + 1, math.MaxInt, math.MinInt, math.MinInt + 1} {
		if head := wire.Head(domain); len(head) != 0 {
			t.Errorf("Head(%d) = % x", domain, head)
		}
	}
	for domain := 1; domain <= 255; domain++ {
		want := []byte{0x46, 0x42, 1, byte(domain)}
		head := wire.Head(domain)
		if !bytes.Equal(head, want) {
			t.Errorf("Head(%d) = % x", domain, head)
		}
		for _, behind := range []string{"", "x", "FB"} {
			if got, at, err := wire.ReadHead(append(slices.Clone(head), behind...)); got != domain || at != 4 || err != api.OK {
				t.Errorf("ReadHead of Head(%d) and %q: %d, %d, %d", domain, behind, got, at, err)
			}
		}
		head[0], head[3] = 0, 0
		if again := wire.Head(domain); !bytes.Equal(again, want) {
			t.Errorf("Head(%d) behind a spoilt answer: % x", domain, again)
		}
	}
}

func TestReadHeadRefusedP96(t *testing.T) {
	refused := func(b []byte) {
		t.Helper()
		if domain, at, err := wire.ReadHead(b); domain != 0 || at != 0 || err != api.ErrForm {
			t.Errorf("ReadHead(% x): %d, %d, %d", b, domain, at, err)
		}
	}
	whole := wire.Head(3)
	for n := range 4 {
		refused(whole[:n])
		refused(whole[: n : n+1])
	}
	for place := range 3 {
		for x := range 256 {
			if b := append(slices.Clone(whole), 1, 2); b[place] != byte(x) {
				b[place] = byte(x)
				refused(b)
			}
		}
	}
	refused(unhex("46 42 01 00"))
	refused(unhex("46 42 01 00 03"))
	refused(unhex("00 46 42 01 03"))
}

// roomy is a copy of a list in the midst of other bytes, and all of them.
func roomy(b []byte) (list, all []byte) {
	all = slices.Concat([]byte{0xa5, 0x5a}, b, []byte{0x5a, 0xa5, 0xa5, 0x5a, 1, 2, 3, 4, 5, 6, 7, 8})
	return all[2 : 2+len(b)], all
}

func TestHandedInIsLeft(t *testing.T) {
	told := unhex("03 616263 02 0507 464201 03 01")
	list, all := roomy(told)
	was := slices.Clone(all)
	r := wire.NewReader(list)
	r.Bytes(3)
	wire.GetList(r, 2, getByte)
	r.Fixed(4)
	r.Bool()
	if r.Done() != api.OK {
		t.Errorf("reading: %d", r.Done())
	}
	wire.ReadHead(list)
	wire.ReadHead(list[7:])
	w := wire.NewWriter()
	w.Fixed(list)
	w.Bytes(list, len(list))
	wire.PutList(w, list, len(list), putByte)
	w.Byte(9)
	w.Done()
	w.Bytes(list, 0)
	wire.PutList(w, list, 0, putByte)
	w.Done()
	if !bytes.Equal(all, was) {
		t.Errorf("what was handed in has become % x", all)
	}
}

func TestHandedInIsNotKept(t *testing.T) {
	b := unhex("02 6162 02 0507 0001")
	r := wire.NewReader(b)
	clear(b)
	if a, l, f := r.Bytes(9), wire.GetList(r, 9, getByte), r.Fixed(2); string(a) != "ab" || !slices.Equal(l, []byte{5, 7}) || !slices.Equal(f, []byte{0, 1}) {
		t.Errorf("behind a list that was spoilt: % x, % x, % x", a, l, f)
	}
	for n := range 70 {
		w, b := wire.NewWriter(), bytes.Repeat([]byte{7}, n)
		w.Fixed(b)
		clear(b)
		w.Bytes(b, n)
		for i := range b {
			b[i] = 9
		}
		wire.PutList(w, b, n, putByte)
		clear(b)
		want := slices.Concat(bytes.Repeat([]byte{7}, n), []byte{byte(n)}, make([]byte, n), []byte{byte(n)}, bytes.Repeat([]byte{9}, n))
		if got, _ := w.Done(); !bytes.Equal(got, want) {
			t.Fatalf("behind a list that was spoilt: % x", got)
		}
	}
}

func TestReadAnswersShareNothing(t *testing.T) {
	all := unhex("0102030405060708090a0b0c")
	r := wire.NewReader(slices.Concat(all[:4], []byte{4}, all[4:8], []byte{4}, all[8:], []byte{0xcc}))
	answers := [][]byte{r.Fixed(4), r.Bytes(4), wire.GetList(r, 4, getByte)}
	spoil := func(b []byte) {
		for i := range b {
			b[i] ^= 0xff
		}
		b = b[:cap(b)]
		clear(b[4:])
	}
	for i, b := range answers {
		if !bytes.Equal(b, all[4*i:4*i+4]) {
			t.Errorf("answer %d: % x", i, b)
		}
		spoil(b)
	}
	if x := r.Byte(); x != 0xcc {
		t.Errorf("behind answers that were spoilt: %#x", x)
	}
	for i, b := range answers {
		spoil(b)
		if !bytes.Equal(b, all[4*i:4*i+4]) {
			t.Errorf("answer %d has become % x", i, b)
		}
	}
}

func TestReadersAndWritersAreApart(t *testing.T) {
	b := []byte{1, 2}
	one, other := wire.NewReader(b), wire.NewReader(b)
	one.Byte()
	one.Fixed(9)
	if other.Left() != 2 || other.Byte() != 1 || other.Byte() != 2 || other.Done() != api.OK {
		t.Errorf("another Reader of the same bytes: %d left, %d", other.Left(), other.Done())
	}
	w, v := wire.NewWriter(), wire.NewWriter()
	w.Bytes(b, 1)
	v.Fixed(b)
	if got, err := v.Done(); !bytes.Equal(got, b) || err != api.OK {
		t.Errorf("another Writer: % x, %d", got, err)
	}
}

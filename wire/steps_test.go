package wire_test

import (
	"bytes"
	"encoding/binary"
	"math"
	"math/rand/v2"
	"reflect"
	"slices"
	"testing"

	"farebox/api"
	"farebox/wire"
)

// someNumber is a number with any number of bits, and often the least or the greatest of them.
func someNumber(r *rand.Rand) uint64 {
	top := uint64(1) << r.IntN(64)
	switch r.IntN(4) {
	case 0:
		return top
	case 1:
		return top - 1
	case 2:
		return math.MaxUint64
	}
	return top | r.Uint64N(top)
}

// A step is a call of a Writer and of a Reader that belong together, with the bounds that both are told.
type step struct {
	kind string
	size int // of Fixed
	most int // of Bytes, list and lists
}

// kinds are all kinds of steps: list is one of Uints, lists one of lists of Bytes.
var kinds = []string{"Byte", "U32", "U64", "Uint", "Bool", "Fixed", "Bytes", "list", "lists"}

func someStep(source *rand.Rand) step {
	return step{kinds[source.IntN(len(kinds))], source.IntN(6), 4}
}

func someSteps(source *rand.Rand) []step {
	steps := make([]step, source.IntN(7))
	for i := range steps {
		steps[i] = someStep(source)
	}
	return steps
}

// someValue is a value that a step can write.
func (s step) someValue(source *rand.Rand) any {
	switch s.kind {
	case "Byte":
		return byte(source.Uint32())
	case "U32":
		return uint32(someNumber(source))
	case "U64", "Uint":
		return someNumber(source)
	case "Bool":
		return source.IntN(2) == 1
	case "Fixed":
		return someBytes(source, s.size)
	case "Bytes":
		return someBytes(source, source.IntN(s.most+1))
	case "list":
		list := make([]uint64, source.IntN(s.most+1))
		for i := range list {
			list[i] = someNumber(source)
		}
		return list
	}
	lists := make([][][]byte, source.IntN(s.most+1))
	for i := range lists {
		lists[i] = make([][]byte, source.IntN(s.most+1))
		for j := range lists[i] {
			lists[i][j] = someBytes(source, source.IntN(s.most+1))
		}
	}
	return lists
}

// write writes a value by this step.
func (s step) write(w *wire.Writer, value any) {
	switch s.kind {
	case "Byte":
		w.Byte(value.(byte))
	case "U32":
		w.U32(value.(uint32))
	case "U64":
		w.U64(value.(uint64))
	case "Uint":
		w.Uint(value.(uint64))
	case "Bool":
		w.Bool(value.(bool))
	case "Fixed":
		w.Fixed(value.([]byte))
	case "Bytes":
		w.Bytes(value.([]byte), s.most)
	case "list":
		wire.PutList(w, value.([]uint64), s.most, (*wire.Writer).Uint)
	case "lists":
		wire.PutList(w, value.([][][]byte), s.most, func(w *wire.Writer, list [][]byte) {
			wire.PutList(w, list, s.most, func(w *wire.Writer, b []byte) { w.Bytes(b, s.most) })
		})
	}
}

// read reads a value by this step.
func (s step) read(r *wire.Reader) any {
	switch s.kind {
	case "Byte":
		return r.Byte()
	case "U32":
		return r.U32()
	case "U64":
		return r.U64()
	case "Uint":
		return r.Uint()
	case "Bool":
		return r.Bool()
	case "Fixed":
		return r.Fixed(s.size)
	case "Bytes":
		return r.Bytes(s.most)
	case "list":
		return wire.GetList(r, s.most, (*wire.Reader).Uint)
	}
	return wire.GetList(r, s.most, func(r *wire.Reader) [][]byte {
		return wire.GetList(r, s.most, func(r *wire.Reader) []byte { return r.Bytes(s.most) })
	})
}

// same tells whether two values are the same, nil and empty lists too.
func same(a, b any) bool {
	x, y := reflect.ValueOf(a), reflect.ValueOf(b)
	if x.Kind() != reflect.Slice {
		return a == b
	}
	if x.Len() != y.Len() {
		return false
	}
	for i := range x.Len() {
		if !same(x.Index(i).Interface(), y.Index(i).Interface()) {
			return false
		}
	}
	return true
}

func writeAll(steps []step, values []any) ([]byte, api.Errno) {
	return written(func(w *wire.Writer) {
		for i, s := range steps {
			s.write(w, values[i])
		}
	})
}

func readAll(steps []step, b []byte) ([]any, *wire.Reader) {
	r := wire.NewReader(b)
	values := make([]any, len(steps))
	for i, s := range steps {
		values[i] = s.read(r)
	}
	return values, r
}

func TestReadAgainP97(t *testing.T) {
	source := chance(4)
	for range 4000 {
		steps := someSteps(source)
		values := make([]any, len(steps))
		for i, s := range steps {
			values[i] = s.someValue(source)
		}
		told, err := writeAll(steps, values)
		if err != api.OK {
			t.Fatalf("%v of %v: %d", steps, values, err)
		}
		got, r := readAll(steps, told)
		if !same(got, values) || r.Left() != 0 || r.Done() != api.OK {
			t.Fatalf("%v: %v is read as %v, %d left, %d", steps, values, got, r.Left(), r.Done())
		}
		for n := range told {
			if _, r := readAll(steps, told[:n]); r.Done() == api.OK {
				t.Fatalf("%v: the first %d of % x are read whole", steps, n, told)
			}
		}
	}
}

// likelyBytes are bytes that many steps can read.
func likelyBytes(source *rand.Rand, n int) []byte {
	b := make([]byte, n)
	for i := range b {
		b[i] = []byte{0, 0, 0, 1, 1, 1, 2, 2, 3, 4, 5, 0x7f, 0x80, 0x81, 0xff}[source.IntN(15)]
	}
	return b
}

func TestOneFormP97(t *testing.T) {
	source := chance(5)
	whole := 0
	for range 200000 {
		steps, b := someSteps(source), likelyBytes(source, source.IntN(12))
		values, r := readAll(steps, b)
		if r.Done() != api.OK {
			continue
		}
		whole++
		if again, err := writeAll(steps, values); !bytes.Equal(again, b) || err != api.OK {
			t.Fatalf("%v: % x is read as %v, which is written as % x, %d", steps, b, values, again, err)
		}
	}
	if whole < 5000 {
		t.Errorf("only %d were read whole: too few to ask anything", whole)
	}
}

func TestOneShortFormP97(t *testing.T) {
	// All bytes up to two: each number below 2^14 has just the form that it is written in.
	numbers := map[uint64][]byte{}
	for n := 1; n <= 2; n++ {
		for x := range 1 << (8 * n) {
			b := binary.LittleEndian.AppendUint32(nil, uint32(x))[:n]
			r := wire.NewReader(b)
			number := r.Uint()
			if r.Done() != api.OK {
				continue
			}
			if other := numbers[number]; other != nil {
				t.Fatalf("%d is read from % x and from % x", number, other, b)
			}
			numbers[number] = b
		}
	}
	if len(numbers) != 1<<14 {
		t.Errorf("%d numbers are read from up to two bytes, want 2^14", len(numbers))
	}
	for number, b := range numbers {
		if !bytes.Equal(b, binary.AppendUvarint(nil, number)) {
			t.Fatalf("%d is read from % x", number, b)
		}
	}
}

// plain is a Reader of the test's own, which says the promises in the plainest way: what a step takes of the bytes, or a fault.
type plain struct {
	rest  []byte
	fault api.Errno
}

// bytes is the next n bytes, or nothing and a fault.
func (p *plain) bytes(n int) []byte {
	if p.fault != api.OK {
		return nil
	}
	if n < 0 || n > len(p.rest) {
		p.fault = api.ErrForm
		return nil
	}
	b := p.rest[:n]
	p.rest = p.rest[n:]
	return b
}

// number is the number whose short form, by Go's library, stands next.
func (p *plain) number() uint64 {
	if p.fault != api.OK {
		return 0
	}
	x, n := binary.Uvarint(p.rest)
	if n <= 0 || !bytes.Equal(binary.AppendUvarint(nil, x), p.rest[:n]) {
		p.fault = api.ErrForm
		return 0
	}
	p.rest = p.rest[n:]
	return x
}

// counted is the number of what follows; if it is refused, it is not read either.
func (p *plain) counted(most int) int {
	ahead := p.rest
	n := p.number()
	switch {
	case p.fault != api.OK:
		return 0
	case most < 0 || n > math.MaxInt || int(n) > most:
		p.rest, p.fault = ahead, api.ErrLong
		return 0
	case int(n) > len(p.rest):
		p.rest, p.fault = ahead, api.ErrForm
		return 0
	}
	return int(n)
}

func (p *plain) lists(depth, most int) any {
	n := p.counted(most)
	if depth == 0 {
		return slices.Clone(p.bytes(n))
	}
	var list []any
	for range n {
		if p.fault == api.OK {
			list = append(list, p.lists(depth-1, most))
		}
	}
	if p.fault != api.OK {
		return []any(nil)
	}
	return list
}

// read is what a step must answer.
func (p *plain) read(s step) any {
	switch s.kind {
	case "Byte":
		b := append(slices.Clone(p.bytes(1)), 0)
		return b[0]
	case "U32":
		b := append(slices.Clone(p.bytes(4)), 0, 0, 0, 0)
		return binary.BigEndian.Uint32(b)
	case "U64":
		b := append(slices.Clone(p.bytes(8)), 0, 0, 0, 0, 0, 0, 0, 0)
		return binary.BigEndian.Uint64(b)
	case "Uint":
		return p.number()
	case "Bool":
		if len(p.rest) > 0 && p.rest[0] > 1 && p.fault == api.OK {
			p.fault = api.ErrForm
		}
		return bytes.Equal(p.bytes(1), []byte{1})
	case "Fixed":
		return p.bytes(s.size)
	case "Bytes":
		return p.lists(0, s.most)
	case "lists":
		return p.lists(2, s.most)
	}
	var list []uint64
	for range p.counted(s.most) {
		list = append(list, p.number())
	}
	if p.fault != api.OK {
		return []uint64(nil)
	}
	return list
}

// TestAnyStepsP93P94P95: any steps at any bytes are answered as the promises say, step by step.
func TestAnyStepsP93P94P95(t *testing.T) {
	source := chance(6)
	bounds := []int{0, 1, 2, 3, 4, 5, 9, -1, math.MinInt, math.MaxInt}
	for range 100000 {
		b := likelyBytes(source, source.IntN(20))
		r, p := wire.NewReader(b), &plain{rest: slices.Clone(b)}
		for range 8 {
			s := step{kinds[source.IntN(len(kinds))], bounds[source.IntN(len(bounds))], bounds[source.IntN(len(bounds))]}
			got, want := s.read(r), p.read(s)
			done := p.fault
			if done == api.OK && len(p.rest) > 0 {
				done = api.ErrForm
			}
			if !same(got, want) || r.Left() != len(p.rest) || r.Done() != done {
				t.Fatalf("% x: %v: %v, %d left, %d, want %v, %d, %d", b, s, got, r.Left(), r.Done(), want, len(p.rest), done)
			}
		}
	}
}

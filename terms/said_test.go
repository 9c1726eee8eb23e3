package terms_test

import (
	"bytes"
	"math/rand/v2"
	"reflect"
	"slices"
	"sync"
	"testing"

	"farebox/api"
	"farebox/terms"
)

// wantSaid asks what is signed in a message, and the signatures beside it.
func (k kind[T]) wantSaid(t *testing.T, r *rand.Rand) {
	x := k.some(r)
	says, sigs, err := terms.Said(k.plain(x))
	want := k.parts(x)
	if len(says) != len(want) || len(sigs) != len(want) || err != api.OK {
		t.Fatalf("Said of %s %v: %x, %x, %d, want %x", k.name, x, says, sigs, err, want)
	}
	for i, p := range want {
		if !bytes.Equal(says[i], p.say) || sigs[i] != p.sig {
			t.Errorf("Said of %s %v: place %d is %x, %x, want %x", k.name, x, i, says[i], sigs[i], p)
		}
	}
}

func TestSaidP106(t *testing.T) {
	for i, k := range kinds() {
		r := chance(700 + uint64(i))
		for range 200 {
			k.wantSaid(t, r)
		}
	}
}

// TestSaidOfEntriesP106 asks the order of an entry's parts, by what the Say calls tell.
func TestSaidOfEntriesP106(t *testing.T) {
	c := exampleCert()
	cert, freeze, revocation := terms.SayCert(c), terms.SayFreeze(api.Freeze{Cert: c}), terms.SayRevocation(api.Revocation{Cert: c})
	for _, row := range []struct {
		x    api.Entry
		says [][]byte
		sigs []api.Sig
	}{
		{api.Entry{Cert: c}, [][]byte{cert}, []api.Sig{c.Sig}},
		{api.Entry{Cert: c, Frozen: true, Freeze: sigOf(4)}, [][]byte{cert, freeze}, []api.Sig{c.Sig, sigOf(4)}},
		{api.Entry{Cert: c, Revoked: true, Revoke: sigOf(5)}, [][]byte{cert, revocation}, []api.Sig{c.Sig, sigOf(5)}},
		{api.Entry{Cert: c, Frozen: true, Freeze: sigOf(4), Revoked: true, Revoke: sigOf(5)}, [][]byte{cert, freeze, revocation}, []api.Sig{c.Sig, sigOf(4), sigOf(5)}},
		{api.Entry{Cert: c, Frozen: true, Revoked: true}, [][]byte{cert, freeze, revocation}, []api.Sig{c.Sig, {}, {}}},
	} {
		b, _ := terms.EncodeEntry(row.x)
		says, sigs, err := terms.Said(b)
		if !reflect.DeepEqual(says, row.says) || !slices.Equal(sigs, row.sigs) || err != api.OK {
			t.Errorf("Said of %v: %x, %x, %d, want %x, %x", row.x, says, sigs, err, row.says, row.sigs)
		}
	}
}

// meant is a term as far as it is signed.
func (k kind[T]) meant(x T) T {
	for _, f := range k.blobs {
		if !f.signed {
			clear(f.place(&x))
		}
	}
	return x
}

// few is a term of few values, so that terms of chance are often the same in some fields, or in all.
func (k kind[T]) few(r *rand.Rand) T {
	x := k.base
	for _, f := range k.numbers {
		f.set(&x, f.least+int64(r.IntN(2)))
	}
	for _, f := range k.blobs {
		clear(f.place(&x))
		f.place(&x)[0] = byte(r.IntN(2))
	}
	return x
}

// gather lays a term's message and its signed bytes beside what they mean, and tells which of them meant something else already.
func (k kind[T]) gather(r *rand.Rand, messages, says map[string]any) (string, string) {
	x := k.few(r)
	b, err := k.encode(x)
	if err != api.OK {
		return "", "" // an index above the rides
	}
	var sameMessage, sameSay string
	if other, ok := messages[string(b)]; ok && other != any(x) {
		sameMessage = string(b)
	}
	messages[string(b)] = x
	if k.say != nil {
		said := string(k.say(x))
		if other, ok := says[said]; ok && other != any(k.meant(x)) {
			sameSay = said
		}
		says[said] = k.meant(x)
	}
	return sameMessage, sameSay
}

// TestNoTwoAreTheSameP107 asks many terms of few values: their messages, and what is signed of them.
func TestNoTwoAreTheSameP107(t *testing.T) {
	messages, says := map[string]any{}, map[string]any{}
	r := chance(800)
	for range 500 {
		for _, k := range kinds() {
			message, say := k.gather(r, messages, says)
			if message != "" {
				t.Errorf("two terms, one of kind %d, have the message % x", k.number(), message)
			}
			if say != "" {
				t.Errorf("two terms, one of kind %d, have the signed bytes % x", k.number(), say)
			}
		}
	}
}

// wantMeaning asks, field by field, that what is signed changes just with what stands in it.
func (k kind[T]) wantMeaning(t *testing.T, r *rand.Rand) {
	if k.say == nil {
		return
	}
	x := k.some(r)
	said := k.say(x)
	for _, f := range k.numbers {
		y := x
		for n := f.least; y == x; n++ {
			f.set(&y, n)
		}
		if bytes.Equal(k.say(y), said) || len(k.say(y)) != len(said) {
			t.Errorf("Say%s: % x for %v and for %v", k.name, said, x, y)
		}
	}
	for _, f := range k.blobs {
		y := x
		place := f.place(&y)
		place[r.IntN(len(place))] ^= 1 << r.IntN(8)
		if bytes.Equal(k.say(y), said) == f.signed {
			t.Errorf("Say%s: % x for %v, % x with another %s", k.name, said, x, k.say(y), f.name)
		}
	}
}

func TestMeaningP105P107(t *testing.T) {
	for i, k := range kinds() {
		r := chance(900 + uint64(i))
		for range 200 {
			k.wantMeaning(t, r)
		}
	}
}

// TestSayIsNoMessageP107 asks that what is signed is read as no term: whoever has it has no message.
func TestSayIsNoMessageP107(t *testing.T) {
	r := chance(1000)
	for _, k := range kinds() {
		says, _, _ := terms.Said(k.message(r))
		for _, say := range says {
			for _, other := range kinds() {
				if err := other.refusal(t, "what is signed", say); err == api.OK {
					t.Errorf("kind %d: % x is signed, and is a message of kind %d", k.number(), say, other.number())
				}
			}
		}
	}
}

// spoil writes over a list and its spare room.
func spoil(b []byte) {
	b = b[:cap(b)]
	for i := range b {
		b[i] ^= 0xa5
	}
}

// wantOwnMemory asks that a message is left as it is, with what lies behind it, and that answers share nothing.
func (k kind[T]) wantOwnMemory(t *testing.T, r *rand.Rand) {
	x := k.some(r)
	whole := append(k.plain(x), bytes.Repeat([]byte{0x5a}, 100)...)
	kept := slices.Clone(whole)
	b := whole[:len(whole)-100]
	y, _ := k.decode(b)
	terms.Domain(b)
	says, sigs, _ := terms.Said(b)
	other, otherSigs, _ := terms.Said(b)
	if !bytes.Equal(whole, kept) {
		t.Fatalf("kind %s: a message was changed by reading it", k.name)
	}
	spoil(whole)
	if y != x {
		t.Errorf("kind %s: a term changes with the message that it was read from", k.name)
	}
	for i, p := range k.parts(x) {
		if !bytes.Equal(says[i], p.say) || sigs[i] != p.sig {
			t.Errorf("kind %s: what Said told changes with the message", k.name)
		}
		spoil(says[i])
		says[i] = nil
		sigs[i] = api.Sig{}
		clear(says[len(says):cap(says)])
		clear(sigs[len(sigs):cap(sigs)])
		for j, q := range k.parts(x) {
			if j > i && (!bytes.Equal(says[j], q.say) || sigs[j] != q.sig) || !bytes.Equal(other[j], q.say) || otherSigs[j] != q.sig {
				t.Errorf("kind %s: what Said told changes with another answer", k.name)
			}
		}
	}
	first, _ := k.encode(x)
	second, _ := k.encode(x)
	spoil(first)
	if third, _ := k.encode(x); !bytes.Equal(second, k.plain(x)) || !bytes.Equal(third, k.plain(x)) {
		t.Errorf("Encode%s: two answers share memory", k.name)
	}
	if k.say == nil {
		return
	}
	want := slices.Concat(head(k.domain), k.signed(x))
	said, again := k.say(x), k.say(x)
	spoil(said)
	if third := k.say(x); !bytes.Equal(again, want) || !bytes.Equal(third, want) {
		t.Errorf("Say%s: two answers share memory", k.name)
	}
}

func TestOwnMemoryP101(t *testing.T) {
	for i, k := range kinds() {
		r := chance(1100 + uint64(i))
		for range 20 {
			k.wantOwnMemory(t, r)
		}
	}
}

// wild is a term of any numbers and bytes.
func (k kind[T]) wild(r *rand.Rand) T {
	x := k.some(r)
	for _, f := range k.numbers {
		if r.IntN(3) > 0 {
			f.set(&x, int64(r.Uint64()>>r.IntN(64)))
		}
	}
	return x
}

// calls is what all calls of the kind answer for bytes and a term of chance.
func (k kind[T]) calls(r *rand.Rand, b []byte) []any {
	x := k.wild(r)
	told, err := k.encode(x)
	read, refused := k.decode(b)
	domain, none := terms.Domain(b)
	says, sigs, fault := terms.Said(b)
	answers := []any{told, err, read, refused, domain, none, says, sigs, fault}
	if k.say != nil {
		answers = append(answers, k.say(x))
	}
	return answers
}

// TestAnyArgumentsP101 asks that calls end without a panic at any arguments, and answer the same in whatever order and beside whichever others they are called.
func TestAnyArgumentsP101(t *testing.T) {
	run := func() (all [][]any) {
		for i, k := range kinds() {
			r := chance(1200 + uint64(i))
			for range 200 {
				b := make([]byte, r.IntN(400))
				for j := range b {
					b[j] = byte(r.Uint32() >> r.IntN(32))
				}
				if r.IntN(4) > 0 {
					b = append(head(byte(r.IntN(12))), b...)
				}
				all = append(all, k.calls(r, b))
			}
		}
		return all
	}
	want := run()
	var several sync.WaitGroup
	for range 4 {
		several.Go(func() {
			if !reflect.DeepEqual(run(), want) {
				t.Error("the same arguments have other answers")
			}
		})
	}
	several.Wait()
}

// TestNilAndEmptyP101 asks that no bytes are no bytes, however they are handed in.
func TestNilAndEmptyP101(t *testing.T) {
	for _, b := range [][]byte{nil, {}, make([]byte, 0, 200)} {
		for _, k := range kinds() {
			if err := k.refusal(t, "no bytes", b); err != api.ErrForm {
				t.Errorf("kind %d, no bytes: %d, want ErrForm", k.number(), err)
			}
		}
		if domain, err := terms.Domain(b); domain != 0 || err != api.ErrForm {
			t.Errorf("Domain of no bytes = %d, %d", domain, err)
		}
		if says, sigs, err := terms.Said(b); len(says)+len(sigs) > 0 || err != api.ErrForm {
			t.Errorf("Said of no bytes = %x, %x, %d", says, sigs, err)
		}
	}
}

package terms_test

import (
	"bytes"
	"math"
	"math/rand/v2"
	"slices"
	"testing"

	"farebox/api"
	"farebox/terms"
)

// anyKind is what is asked of every kind, whatever its terms' type.
type anyKind interface {
	number() byte
	message(r *rand.Rand) []byte
	refusal(t *testing.T, what string, b []byte) api.Errno
	wantForm(t *testing.T, r *rand.Rand)
	wantRanges(t *testing.T)
	wantLimitsTogether(t *testing.T, r *rand.Rand)
	wantBytesInRange(t *testing.T)
	wantToldAgain(t *testing.T, b []byte)
	wantSaid(t *testing.T, r *rand.Rand)
	gather(r *rand.Rand, messages, says map[string]any) (string, string)
	wantMeaning(t *testing.T, r *rand.Rand)
	wantOwnMemory(t *testing.T, r *rand.Rand)
	calls(r *rand.Rand, b []byte) []any
}

func (k kind[T]) number() byte { return k.domain }

// plain is the message of a term, by the chapter's words.
func (k kind[T]) plain(x T) []byte { return slices.Concat(head(k.domain), k.body(x)) }

// some is a term in range.
func (k kind[T]) some(r *rand.Rand) T {
	x := k.base
	for _, f := range k.numbers {
		n := f.least
		if span := uint64(f.most(x) - f.least); r.IntN(4) > 0 {
			n += int64(r.Uint64N(span + 1))
		}
		f.set(&x, n)
	}
	for _, f := range k.blobs {
		for i := range f.place(&x) {
			f.place(&x)[i] = byte(r.Uint32())
		}
	}
	return x
}

func (k kind[T]) message(r *rand.Rand) []byte { return k.plain(k.some(r)) }

// refusal is the Errno of the kind's Decode; nothing else may be told beside it.
func (k kind[T]) refusal(t *testing.T, what string, b []byte) api.Errno {
	t.Helper()
	var none T
	x, err := k.decode(b)
	if err != api.OK && x != none {
		t.Errorf("Decode%s of %s: %d, and %v", k.name, what, err, x)
	}
	return err
}

// wantForm asks for the form of a term's message, and that it is read back.
func (k kind[T]) wantForm(t *testing.T, r *rand.Rand) {
	x := k.some(r)
	if b, err := k.encode(x); !bytes.Equal(b, k.plain(x)) || err != api.OK {
		t.Errorf("Encode%s(%v) = % x, %d, want % x", k.name, x, b, err, k.plain(x))
	}
	if y, err := k.decode(k.plain(x)); y != x || err != api.OK {
		t.Errorf("Decode%s(% x) = %v, %d, want %v", k.name, k.plain(x), y, err, x)
	}
	if k.say != nil {
		if b, want := k.say(x), slices.Concat(head(k.domain), k.signed(x)); !bytes.Equal(b, want) {
			t.Errorf("Say%s(%v) = % x, want % x", k.name, x, b, want)
		}
	}
}

// wantTold asks what is told of a term whose fields are, or are not, all in range.
func (k kind[T]) wantTold(t *testing.T, what string, x T, fits bool) {
	t.Helper()
	b, err := k.encode(x)
	if fits && (!bytes.Equal(b, k.plain(x)) || err != api.OK) {
		t.Errorf("Encode%s, %s: % x, %d, want % x", k.name, what, b, err, k.plain(x))
	}
	if !fits && (len(b) != 0 || err != api.ErrArg) {
		t.Errorf("Encode%s, %s: % x, %d, want no bytes, ErrArg", k.name, what, b, err)
	}
	if k.say == nil {
		return
	}
	// All numbers of the kinds that are said are signed.
	b, want := k.say(x), slices.Concat(head(k.domain), k.signed(x))
	if !fits {
		want = nil
	}
	if !bytes.Equal(b, want) {
		t.Errorf("Say%s, %s: % x, want % x", k.name, what, b, want)
	}
}

// around are the limits of a field, those beside them, and numbers far away, some of which would fit if they were cut.
func (f number[T]) around(x T) []int64 {
	least, most := f.least, f.most(x)
	return []int64{
		least, least + 1, most - 1, most, least - 1, most + 1, 0, -1,
		least + 1<<32, most + 1<<32, least - 1<<32, math.MaxInt32, math.MinInt32, math.MaxInt64, math.MinInt64, math.MinInt64 + least,
	}
}

func (f number[T]) fits(x T, n int64) bool { return f.least <= n && n <= f.most(x) }

// wantRanges asks each number of a term alone, at its limits and beyond.
func (k kind[T]) wantRanges(t *testing.T) {
	for _, f := range k.numbers {
		for _, n := range f.around(k.base) {
			x := k.base
			f.set(&x, n)
			k.wantTold(t, f.name, x, f.fits(k.base, n))
		}
	}
}

// wantLimitsTogether asks terms in which any numbers are at their limits or beyond.
func (k kind[T]) wantLimitsTogether(t *testing.T, r *rand.Rand) {
	x := k.some(r)
	fits := true
	for _, f := range k.numbers {
		few := []int64{f.least, f.most(x)}
		if r.IntN(4) == 0 {
			few = f.around(x)
		}
		n := few[r.IntN(len(few))]
		fits = fits && f.fits(x, n)
		f.set(&x, n)
	}
	k.wantTold(t, "any limits", x, fits)
}

// wantBytesInRange asks that just the numbers in range are read.
func (k kind[T]) wantBytesInRange(t *testing.T) {
	for _, f := range k.numbers {
		for _, n := range f.around(k.base) {
			if f.width == 4 {
				n = int64(uint32(n))
			}
			want := api.ErrForm
			if f.fits(k.base, n) {
				want = api.OK
			}
			x := k.base
			f.set(&x, n)
			b := k.plain(x)
			if err := k.refusal(t, f.name, b); err != want {
				t.Errorf("Decode%s, %s %d: %d, want %d", k.name, f.name, n, err, want)
			}
			if says, sigs, err := terms.Said(b); err != want || err != api.OK && len(says)+len(sigs) > 0 {
				t.Errorf("Said of a %s, %s %d: %x, %x, %d, want %d", k.name, f.name, n, says, sigs, err, want)
			}
		}
	}
}

// wantToldAgain asks that bytes with the kind's head are refused, or told again just so.
func (k kind[T]) wantToldAgain(t *testing.T, b []byte) {
	x, err := k.decode(b)
	if err != api.OK {
		if e := k.refusal(t, "any bytes", b); e != api.ErrForm {
			t.Errorf("Decode%s(% x): %d, want ErrForm", k.name, b, e)
		}
		return
	}
	if again, err := k.encode(x); err != api.OK || !bytes.Equal(again, b) || !bytes.Equal(again, k.plain(x)) {
		t.Errorf("Decode%s(% x) = %v, which is told % x, %d", k.name, b, x, again, err)
	}
}

func TestExamplesOfEncode(t *testing.T) {
	c, h, s := exampleCert(), hashOf(0x33), sigOf(0x44)
	want := slices.Concat(unhex("46 42 01 01, 00 00 00 07, 00 00 00 03, 00 00 00 00 00 00 00 fa"), bytes.Repeat([]byte{0x11}, 32), bytes.Repeat([]byte{0x22}, 64))
	if b, err := terms.EncodeCert(c); !bytes.Equal(b, want) || len(b) != 116 || err != api.OK {
		t.Errorf("EncodeCert(C) = % x, %d", b, err)
	}
	if b := terms.SayCert(c); !bytes.Equal(b, want[:52]) {
		t.Errorf("SayCert(C) = % x", b)
	}
	if b := terms.SayFreeze(api.Freeze{Cert: c, Sig: s}); !bytes.Equal(b, slices.Concat(unhex("46 42 01 04"), want[4:])) || len(b) != 116 {
		t.Errorf("SayFreeze of C = % x", b)
	}
	wantLength := func(what string, length int, b []byte, err api.Errno) {
		t.Helper()
		e := api.OK
		if length == 0 {
			e = api.ErrArg
		}
		if len(b) != length || err != e {
			t.Errorf("%s: %d bytes, %d, want %d, %d", what, len(b), err, length, e)
		}
	}
	for index, length := range []int{0, 152, 152, 152, 0} {
		b, err := terms.EncodeTicket(api.Ticket{Cert: c, Index: index, Value: h})
		wantLength("a ticket", length, b, err)
	}
	for _, row := range []struct {
		x      api.Entry
		length int
	}{
		{api.Entry{Cert: c, Value: h}, 154},
		{api.Entry{Cert: c, Value: h, Frozen: true}, 218},
		{api.Entry{Cert: c, Value: h, Revoked: true}, 218},
		{api.Entry{Cert: c, Value: h, Frozen: true, Revoked: true}, 282},
		{api.Entry{Cert: c, Value: h, Freeze: api.Sig{1}}, 0},
	} {
		b, err := terms.EncodeEntry(row.x)
		wantLength("an entry", row.length, b, err)
	}
	for floor, length := range map[int]int{65536: 72, 65537: 0, 0: 0, 1: 72} {
		b, err := terms.EncodeFloor(api.Floor{Floor: floor, Sig: s})
		wantLength("a floor", length, b, err)
	}
	lengths := map[byte]int{1: 116, 2: 152, 4: 180, 5: 112, 6: 180, 7: 72, 8: 84, 9: 48, 10: 104}
	for _, k := range kinds() {
		if n := len(k.message(chance(1))); k.number() != 3 && n != lengths[k.number()] {
			t.Errorf("a message of kind %d has %d bytes, want %d", k.number(), n, lengths[k.number()])
		}
	}
}

func TestExamplesOfDecode(t *testing.T) {
	c := exampleCert()
	ticket, _ := terms.EncodeTicket(api.Ticket{Cert: c, Index: 1})
	cert, _ := terms.EncodeCert(c)
	for _, row := range []struct {
		what string
		b    []byte
		x    api.Cert
		err  api.Errno
	}{
		{"a ticket", ticket, api.Cert{}, api.ErrDomain},
		{"116 bytes", cert, c, api.OK},
		{"115 bytes", cert[:115], api.Cert{}, api.ErrForm},
		{"117 bytes", append(slices.Clone(cert), 0), api.Cert{}, api.ErrForm},
		{"1025 bytes", append(slices.Clone(cert), make([]byte, 1025-116)...), api.Cert{}, api.ErrLong},
		{"1024 bytes", append(slices.Clone(cert), make([]byte, 1024-116)...), api.Cert{}, api.ErrForm},
		{"no bytes", nil, api.Cert{}, api.ErrForm},
		{"no bytes that are not nil", []byte{}, api.Cert{}, api.ErrForm},
	} {
		if x, err := terms.DecodeCert(row.b); x != row.x || err != row.err {
			t.Errorf("DecodeCert of %s = %v, %d, want %v, %d", row.what, x, err, row.x, row.err)
		}
	}
	for text, want := range map[string]struct {
		domain int
		err    api.Errno
	}{
		"46 42 01 0b": {0, api.ErrDomain},
		"46 42 01 09": {9, api.OK},
		"46 42 02 01": {0, api.ErrForm},
	} {
		if domain, err := terms.Domain(unhex(text)); domain != want.domain || err != want.err {
			t.Errorf("Domain(%s) = %d, %d, want %v", text, domain, err, want)
		}
	}
	order, _ := terms.EncodeOrder(api.Order{Rides: 3, Price: 250, Anchor: c.Anchor})
	if says, sigs, err := terms.Said(order); len(says) != 0 || len(sigs) != 0 || err != api.OK {
		t.Errorf("Said of an order: %x, %x, %d", says, sigs, err)
	}
}

func TestFormP102P103P105(t *testing.T) {
	for i, k := range kinds() {
		r := chance(100 + uint64(i))
		for range 300 {
			k.wantForm(t, r)
		}
	}
}

func TestRangesP102P105(t *testing.T) {
	for i, k := range kinds() {
		k.wantRanges(t)
		r := chance(200 + uint64(i))
		for range 300 {
			k.wantLimitsTogether(t, r)
		}
	}
}

func TestRangesInBytesP103(t *testing.T) {
	for _, k := range kinds() {
		k.wantBytesInRange(t)
	}
}

// TestIndexAgainstRidesP102P103 asks each index of a few carnets, and those beside the rides of some more.
func TestIndexAgainstRidesP102P103(t *testing.T) {
	ticket, entry := ticketKind(), entryKind(false, false)
	for _, rides := range []int{1, 2, 3, 255, 256, 4095, 4096} {
		for _, index := range []int{-1, 0, 1, 2, rides - 1, rides, rides + 1, 4096, 4097, 1 << 31} {
			c := exampleCert()
			c.Rides = rides
			x := api.Ticket{Cert: c, Index: index, Value: hashOf(1)}
			ticket.wantTold(t, "an index", x, 1 <= index && index <= rides)
			if err := ticket.refusal(t, "an index", ticket.plain(x)); (err == api.OK) != (1 <= index && index <= rides) || err != api.OK && err != api.ErrForm {
				t.Errorf("DecodeTicket of %d of %d: %d", index, rides, err)
			}
			y := api.Entry{Cert: c, Index: index, Value: hashOf(1)}
			entry.wantTold(t, "an index", y, 0 <= index && index <= rides)
			if err := entry.refusal(t, "an index", entry.plain(y)); (err == api.OK) != (0 <= index && index <= rides) || err != api.OK && err != api.ErrForm {
				t.Errorf("DecodeEntry of %d of %d: %d", index, rides, err)
			}
		}
	}
}

// TestUntoldSignaturesP102 asks signatures whose flag is false: one bit of them, anywhere, is too much.
func TestUntoldSignaturesP102(t *testing.T) {
	for i := range 64 {
		var s api.Sig
		s[i] = 1 << (i % 8)
		for _, row := range []struct {
			x    api.Entry
			fits bool
		}{
			{api.Entry{Freeze: s}, false},
			{api.Entry{Revoke: s}, false},
			{api.Entry{Frozen: true, Freeze: s}, true},
			{api.Entry{Revoked: true, Revoke: s}, true},
			{api.Entry{Frozen: true, Freeze: s, Revoke: s}, false},
			{api.Entry{Freeze: s, Revoked: true, Revoke: s}, false},
			{api.Entry{Frozen: true, Revoke: s}, false},
			{api.Entry{Revoked: true, Freeze: s}, false},
			{api.Entry{Frozen: true, Freeze: s, Revoked: true, Revoke: s}, true},
		} {
			row.x.Cert = exampleCert()
			entryKind(false, false).wantTold(t, "signatures and flags", row.x, row.fits)
		}
	}
}

// TestFlagsP103 asks every byte in the place of each flag.
func TestFlagsP103(t *testing.T) {
	for _, row := range []struct {
		x      api.Entry
		places []int // of the flags
	}{
		{api.Entry{}, []int{152, 153}},
		{api.Entry{Frozen: true, Freeze: sigOf(1)}, []int{152, 217}},
		{api.Entry{Revoked: true, Revoke: sigOf(1)}, []int{152, 153}},
		{api.Entry{Frozen: true, Freeze: sigOf(1), Revoked: true, Revoke: sigOf(1)}, []int{152, 217}},
	} {
		k := entryKind(row.x.Frozen, row.x.Revoked)
		row.x.Cert = exampleCert()
		for _, place := range row.places {
			for c := range 256 {
				b := k.plain(row.x)
				if int(b[place]) == c {
					continue
				}
				b[place] = byte(c)
				if err := k.refusal(t, "a flag", b); c > 1 && err != api.ErrForm {
					t.Errorf("DecodeEntry with the flag %d at %d: %d, want ErrForm", c, place, err)
				}
				k.wantToldAgain(t, b)
			}
		}
	}
}

// TestHeadsP103P104 asks each byte of a head, in messages that are right otherwise.
func TestHeadsP103P104(t *testing.T) {
	for i, k := range kinds() {
		b := k.message(chance(300 + uint64(i)))
		for place := range 4 {
			for c := range 256 {
				spoilt := slices.Clone(b)
				spoilt[place] = byte(c)
				wantDecode, wantDomain := api.OK, api.OK
				switch {
				case place < 3 && c != int(b[place]), place == 3 && c == 0:
					wantDecode, wantDomain = api.ErrForm, api.ErrForm
				case place == 3 && c > 10:
					wantDecode, wantDomain = api.ErrDomain, api.ErrDomain
				case place == 3 && c != int(k.number()):
					wantDecode = api.ErrDomain
				}
				if err := k.refusal(t, "a head", spoilt); err != wantDecode {
					t.Errorf("kind %d, head % x: %d, want %d", k.number(), spoilt[:4], err, wantDecode)
				}
				want := int(spoilt[3])
				if wantDomain != api.OK {
					want = 0
				}
				if domain, err := terms.Domain(spoilt); domain != want || err != wantDomain {
					t.Errorf("Domain of a head % x = %d, %d, want %d, %d", spoilt[:4], domain, err, want, wantDomain)
				}
			}
		}
	}
}

// wantDomainOf asks Domain of bytes that have that of a head, at most MaxMessage of them.
func wantDomainOf(t *testing.T, b []byte, domain byte) {
	t.Helper()
	want, wantErr := int(domain), api.OK
	if len(b) < 4 {
		want, wantErr = 0, api.ErrForm
	}
	if got, err := terms.Domain(b); got != want || err != wantErr {
		t.Errorf("Domain(% x) = %d, %d, want %d, %d", b, got, err, want, wantErr)
	}
}

// TestLengthsP103P104P107 asks every length that a message may be cut to, and lengths up to and beyond the limit.
func TestLengthsP103P104P107(t *testing.T) {
	for i, k := range kinds() {
		r := chance(400 + uint64(i))
		b := k.message(r)
		for n := range len(b) {
			if err := k.refusal(t, "a beginning", b[:n:n]); err != api.ErrForm {
				t.Errorf("kind %d: the first %d bytes of %d: %d, want ErrForm", k.number(), n, len(b), err)
			}
			if says, sigs, err := terms.Said(b[:n:n]); len(says)+len(sigs) > 0 || err != api.ErrForm {
				t.Errorf("kind %d: Said of the first %d bytes of %d: %x, %x, %d, want ErrForm", k.number(), n, len(b), says, sigs, err)
			}
			wantDomainOf(t, b[:n:n], k.number())
		}
		for _, n := range []int{len(b) + 1, len(b) + 2, len(b) + 64, 1023, 1024, 1025, 1026, 5000} {
			for _, c := range []byte{0, 1, 0xff} {
				long := append(slices.Clone(b), bytes.Repeat([]byte{c}, n-len(b))...)
				want := api.ErrForm
				if n > 1024 {
					want = api.ErrLong
					if domain, err := terms.Domain(long); domain != 0 || err != want {
						t.Errorf("Domain of %d bytes = %d, %d, want 0, ErrLong", n, domain, err)
					}
				} else {
					wantDomainOf(t, long, k.number())
				}
				if err := k.refusal(t, "too many bytes", long); err != want {
					t.Errorf("kind %d, %d bytes: %d, want %d", k.number(), n, err, want)
				}
				if says, sigs, err := terms.Said(long); len(says)+len(sigs) > 0 || err != want {
					t.Errorf("kind %d: Said of %d bytes: %x, %x, %d, want %d", k.number(), n, says, sigs, err, want)
				}
			}
		}
	}
}

// TestOrderOfErrorsP103P104P106 asks bytes that have several faults at once.
func TestOrderOfErrorsP103P104P106(t *testing.T) {
	filled := func(start string, n int) []byte {
		b := unhex(start)
		return append(b, bytes.Repeat([]byte{0xff}, n-len(b))...)
	}
	for _, row := range []struct {
		what           string
		b              []byte
		decode, domain api.Errno
	}{
		{"too long, no head", filled("", 1025), api.ErrLong, api.ErrLong},
		{"too long, another version", filled("46 42 02 01", 1025), api.ErrLong, api.ErrLong},
		{"too long, a domain of none", filled("46 42 01 0b", 1025), api.ErrLong, api.ErrLong},
		{"no head, no fields", filled("", 1024), api.ErrForm, api.ErrForm},
		{"another version, a domain of none", filled("46 42 02 0b", 30), api.ErrForm, api.ErrForm},
		{"another version, another kind", filled("46 42 00 ff", 30), api.ErrForm, api.ErrForm},
		{"a domain of none, no fields", filled("46 42 01 0b", 4), api.ErrDomain, api.ErrDomain},
		{"a domain of none, too many bytes", filled("46 42 01 ff", 1024), api.ErrDomain, api.ErrDomain},
	} {
		for _, k := range kinds() {
			if err := k.refusal(t, row.what, row.b); err != row.decode {
				t.Errorf("kind %d, %s: %d, want %d", k.number(), row.what, err, row.decode)
			}
		}
		if domain, err := terms.Domain(row.b); domain != 0 || err != row.domain {
			t.Errorf("Domain, %s: %d, %d, want 0, %d", row.what, domain, err, row.domain)
		}
		if says, sigs, err := terms.Said(row.b); len(says)+len(sigs) > 0 || err != row.domain {
			t.Errorf("Said, %s: %x, %x, %d, want %d", row.what, says, sigs, err, row.domain)
		}
	}
	for _, k := range kinds() {
		for _, n := range []int{4, 5, 48, 1024} {
			ill := append(head(k.number()), bytes.Repeat([]byte{0xff}, n-4)...)
			for _, other := range kinds() {
				want := api.ErrDomain
				if other.number() == k.number() {
					want = api.ErrForm
				}
				if err := other.refusal(t, "an ill message", ill); err != want {
					t.Errorf("kind %d, an ill message of kind %d: %d, want %d", other.number(), k.number(), err, want)
				}
			}
			if says, sigs, err := terms.Said(ill); len(says)+len(sigs) > 0 || err != api.ErrForm {
				t.Errorf("Said of an ill message of kind %d: %x, %x, %d, want ErrForm", k.number(), says, sigs, err)
			}
		}
	}
}

// TestByNoOtherP107 asks every Decode for the messages of every kind.
func TestByNoOtherP107(t *testing.T) {
	for i, k := range kinds() {
		r := chance(500 + uint64(i))
		for range 20 {
			b := k.message(r)
			for _, other := range kinds() {
				want := api.ErrDomain
				if other.number() == k.number() {
					want = api.OK
				}
				if err := other.refusal(t, "a message", b); err != want {
					t.Errorf("kind %d, a message of kind %d: %d, want %d", other.number(), k.number(), err, want)
				}
			}
		}
	}
}

// TestToldAgainP107 asks messages with a spoilt byte or two, and bytes of chance behind a head.
func TestToldAgainP107(t *testing.T) {
	for i, k := range kinds() {
		r := chance(600 + uint64(i))
		for range 2000 {
			b := k.message(r)
			for range r.IntN(3) {
				b[4+r.IntN(len(b)-4)] = byte(r.IntN(3) * 127)
			}
			k.wantToldAgain(t, b)
			for place := 4; place < len(b); place++ {
				if r.IntN(2) == 0 {
					b[place] = 0
				}
			}
			k.wantToldAgain(t, b)
			k.wantToldAgain(t, b[:4+r.IntN(len(b)-4)])
		}
	}
}

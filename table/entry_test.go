package table_test

import (
	"math"
	"testing"

	"farebox/api"
	"farebox/table"
)

// wantJoin asks for the join of two entries, whichever comes first.
func wantJoin(t *testing.T, what string, a, b, want api.Entry, wantErr api.Errno) {
	t.Helper()
	for _, p := range [][2]api.Entry{{a, b}, {b, a}} {
		if got, err := table.Join(p[0], p[1]); got != want || err != wantErr {
			t.Errorf("P17.1: %s: Join of %s and %s = %s, %d; want %s, %d", what, brief(p[0]), brief(p[1]), brief(got), err, brief(want), wantErr)
		}
	}
}

// TestExamplesP17_1: the chapter's examples of entries.
func TestExamplesP17_1(t *testing.T) {
	dear := c
	dear.Price++
	for _, x := range []struct {
		a, b, want api.Entry
		err        api.Errno
	}{
		{at(c, 2, 7), at(c, 4, 1), at(c, 4, 1), api.OK},
		{at(c, 4, 1), at(c, 4, 9), at(c, 4, 9), api.OK},
		{frozen(at(c, 2, 7), 5), frozen(at(c, 4, 1), 6), frozen(at(c, 4, 1), 6), api.OK},
		{revoked(at(c, 2, 7), 5), at(c, 4, 1), revoked(at(c, 4, 1), 5), api.OK},
		{at(c, 1, 1), at(d, 1, 1), api.Entry{}, api.ErrOther},
		{at(c, 1, 1), at(dear, 1, 1), api.Entry{}, api.ErrOther},
	} {
		wantJoin(t, "example", x.a, x.b, x.want, x.err)
	}
	if !table.Covers(at(c, 4, 1), at(c, 2, 7)) || table.Covers(at(c, 2, 7), at(c, 4, 1)) {
		t.Error("P17.2: the examples of Covers")
	}
}

// others are certificates that differ from one in one field alone, each byte of the long ones in turn.
func others(than api.Cert) []api.Cert {
	var l []api.Cert
	change := func(how func(x *api.Cert)) {
		x := than
		how(&x)
		l = append(l, x)
	}
	for _, by := range []int{1, -1, math.MinInt, 1 << 32, 1 << 16} {
		change(func(x *api.Cert) { x.Serial += by })
		change(func(x *api.Cert) { x.Rides += by })
		change(func(x *api.Cert) { x.Price += int64(by) })
	}
	for i := range than.Anchor {
		change(func(x *api.Cert) { x.Anchor[i] ^= 1 })
		change(func(x *api.Cert) { x.Anchor[i] ^= 128 })
	}
	for i := range than.Sig {
		change(func(x *api.Cert) { x.Sig[i] ^= 1 })
		change(func(x *api.Cert) { x.Sig[i] ^= 128 })
	}
	return l
}

// TestOtherCertP17_1: certificates that differ in one field alone are not joined, whatever else the entries say, and neither covers the other.
func TestOtherCertP17_1(t *testing.T) {
	for i, x := range others(c) {
		for _, e := range []api.Entry{{}, at(c, 2, 7), revoked(frozen(at(c, 4, 1), 5), 6)} {
			for _, f := range []api.Entry{{}, at(c, 2, 7), revoked(frozen(at(c, 9, 9), 9), 9)} {
				e.Cert, f.Cert = c, x
				wantJoin(t, "another certificate", e, f, api.Entry{}, api.ErrOther)
				if table.Covers(e, f) || table.Covers(f, e) {
					t.Errorf("P17.2: an entry covers one of another certificate (%d)", i)
				}
			}
		}
		e := at(x, 2, 7)
		wantJoin(t, "the same certificate", e, e, e, api.OK)
	}
	wantJoin(t, "entries of zeros", api.Entry{}, api.Entry{}, api.Entry{}, api.OK)
	// What a refused join answers is the entry of zeros, which covers nothing by that.
	if table.Covers(api.Entry{}, at(c, 2, 7)) || table.Covers(at(c, 2, 7), api.Entry{}) || !table.Covers(api.Entry{}, api.Entry{}) {
		t.Error("P17.2: the entry of zeros")
	}
}

// risingValues are values, each above the one ahead of it: they differ in the last byte alone, in the first alone, and in between.
func risingValues() []api.Hash {
	return []api.Hash{{}, {31: 1}, {31: 127}, {31: 128}, {31: 255}, {30: 1}, {16: 1}, {1: 1}, {0: 1}, {0: 1, 31: 1}, {0: 127}, {0: 128}, {0: 255}, value(255)}
}

// risingSigs are signatures, likewise.
func risingSigs() []api.Sig {
	return []api.Sig{{}, {63: 1}, {63: 127}, {63: 128}, {63: 255}, {62: 1}, {32: 1}, {31: 1}, {1: 1}, {0: 1}, {0: 1, 63: 1}, {0: 127}, {0: 128}, {0: 255}, sig(255)}
}

// TestMarksP17_1: of all pairs of marks the greater one is taken, as a whole: the index goes first, and the value stays with its index.
func TestMarksP17_1(t *testing.T) {
	var rising []api.Entry
	for _, index := range []int{math.MinInt, math.MinInt + 1, -1, 0, 1, 2, 255, 256, 4096, math.MaxInt} {
		for _, v := range risingValues() {
			rising = append(rising, api.Entry{Cert: c, Index: index, Value: v})
		}
	}
	for i, high := range rising {
		for j, low := range rising[:i+1] {
			wantJoin(t, "marks", low, high, high, api.OK)
			if !table.Covers(high, low) {
				t.Errorf("P17.2: %s does not cover %s", brief(high), brief(low))
			}
			if table.Covers(low, high) != (i == j) {
				t.Errorf("P17.2: %s covers %s", brief(low), brief(high))
			}
		}
	}
}

// TestFlagsP17_1: both flags in all pairs, with all pairs of signatures, also beside flags that are down: what stands there counts for nothing.
func TestFlagsP17_1(t *testing.T) {
	for i, high := range risingSigs() {
		for j, low := range risingSigs() {
			for pair := range 4 {
				up, otherUp := pair&1 != 0, pair&2 != 0
				var want api.Sig
				switch {
				case up && otherUp:
					want = risingSigs()[max(i, j)]
				case up:
					want = high
				case otherUp:
					want = low
				}
				a, b, both := at(c, 2, 7), at(c, 4, 1), at(c, 4, 1)
				a.Frozen, a.Freeze, b.Frozen, b.Freeze = up, high, otherUp, low
				both.Frozen, both.Freeze = up || otherUp, want
				wantJoin(t, "Frozen", a, b, both, api.OK)

				a, b, both = at(c, 2, 7), at(c, 4, 1), at(c, 4, 1)
				a.Revoked, a.Revoke, b.Revoked, b.Revoke = up, high, otherUp, low
				both.Revoked, both.Revoke = up || otherUp, want
				wantJoin(t, "Revoked", a, b, both, api.OK)
			}
		}
	}
}

// TestFlagsApartP17_1: the two flags, and the mark, are each joined by themselves.
func TestFlagsApartP17_1(t *testing.T) {
	both := revoked(frozen(at(c, 1, 1), 9), 3)
	wantJoin(t, "one flag each", frozen(at(c, 1, 1), 9), revoked(at(c, 1, 1), 3), both, api.OK)
	wantJoin(t, "crosswise", revoked(frozen(at(c, 1, 1), 9), 2), revoked(frozen(at(c, 1, 1), 4), 3), both, api.OK)
	wantJoin(t, "a signature of 0", frozen(at(c, 1, 1), 0), at(c, 2, 0), frozen(at(c, 2, 0), 0), api.OK)
	odd := at(c, 1, 1)
	odd.Freeze, odd.Revoke = sig(4), sig(5)
	wantJoin(t, "signatures without their flags", odd, odd, at(c, 1, 1), api.OK)
	wantJoin(t, "one beside a flag of 0", odd, revoked(frozen(at(c, 1, 1), 0), 0), revoked(frozen(at(c, 1, 1), 0), 0), api.OK)
}

// TestByChanceP17_1: entries by chance, those that may not be among them, against the model; and Covers is what Join says.
func TestByChanceP17_1(t *testing.T) {
	r := chance(1)
	draw := func() api.Entry {
		e := drawEntry(r, cert(3+r.IntN(8)/7))
		if r.IntN(3) == 0 {
			e.Freeze, e.Revoke = drawSig(r), drawSig(r)
		}
		return e
	}
	for range 20000 {
		a, b := draw(), draw()
		want, wantErr := modelJoin(a, b)
		wantJoin(t, "by chance", a, b, want, wantErr)
		if got := table.Covers(a, b); got != (wantErr == api.OK && want == a) {
			t.Errorf("P17.2: Covers of %s and %s: %v", brief(a), brief(b), got)
		}
	}
}

// TestCoversP17_2: what an entry lacks of another is told for each thing that it may lack, and an entry that may not be does not cover itself.
func TestCoversP17_2(t *testing.T) {
	full := revoked(frozen(at(c, 4, 5), 6), 7)
	for i, less := range []api.Entry{
		revoked(frozen(at(c, 3, 5), 6), 7), revoked(frozen(at(c, 3, 9), 6), 7), revoked(frozen(at(c, 4, 4), 6), 7),
		revoked(at(c, 4, 5), 7), revoked(frozen(at(c, 4, 5), 5), 7), frozen(at(c, 4, 5), 6), revoked(frozen(at(c, 4, 5), 6), 6), {Cert: c},
	} {
		if !table.Covers(full, less) || table.Covers(less, full) || !table.Covers(less, less) {
			t.Errorf("P17.2: row %d: %s", i, brief(less))
		}
	}
	if table.Covers(frozen(at(c, 1, 1), 9), revoked(at(c, 1, 1), 9)) || table.Covers(revoked(at(c, 1, 1), 9), frozen(at(c, 1, 1), 9)) {
		t.Error("P17.2: one flag covers the other")
	}
	if table.Covers(at(c, 4, 1), frozen(at(c, 2, 7), 0)) || table.Covers(at(c, 4, 1), revoked(at(c, 2, 7), 0)) {
		t.Error("P17.2: a flag with a signature of 0 is lost")
	}
	odd := at(c, 1, 1)
	odd.Revoke[63] = 1
	if table.Covers(odd, odd) || table.Covers(odd, at(c, 1, 1)) || !table.Covers(at(c, 1, 1), odd) {
		t.Error("P17.2: a signature without its flag")
	}
}

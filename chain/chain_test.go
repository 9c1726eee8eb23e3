package chain_test

import (
	"crypto/sha256"
	"testing"

	"farebox/api"
	"farebox/bits"
	"farebox/chain"
)

// wantValue asks that a call answers a value and true, or, where there is none, the zero value and false.
func wantValue(t *testing.T, what string, got api.Hash, ok bool, want api.Hash, there bool) {
	t.Helper()
	if !there {
		want = api.Hash{}
	}
	if ok != there || got != want {
		t.Errorf("%s = %x, %v, want %x, %v", what, got, ok, want, there)
	}
}

// TestStepP15_1: the 32 bytes are hashed as they are, once.
func TestStepP15_1(t *testing.T) {
	// Of 32 zero bytes, a well-known value.
	if got := chain.Step(api.Hash{}); bits.Hex(got[:]) != "66687aadf862bd776c8fc18b8e9f8e20089714856ee233b3902a591d0d5f2925" {
		t.Errorf("P15.1: Step of zero bytes = %x", got)
	}
	r := chance(1)
	for range 500 {
		v := draw(r)
		if got, want := chain.Step(v), sha256.Sum256(v[:]); got != want {
			t.Errorf("P15.1: Step(%x) = %x, want %x", v, got, want)
		}
	}
}

// TestIterateP15_1: all small numbers of steps at one seed, a sample of them at others, and the numbers at the bounds.
func TestIterateP15_1(t *testing.T) {
	r := chance(2)
	for i, s := range seeds(r) {
		l := line(s, api.MaxRides)
		for n := 0; n <= 400; n += 1 + 36*i {
			got, ok := chain.Iterate(s, n)
			wantValue(t, "P15.1: Iterate", got, ok, l[n], true)
		}
		for _, n := range edges {
			got, ok := chain.Iterate(s, n)
			there := within(0, n, api.MaxRides)
			var want api.Hash
			if there {
				want = l[n]
			}
			wantValue(t, "P15.1: Iterate at an edge", got, ok, want, there)
		}
	}
}

// TestValueP15_2: every index of small chains, and those by the ends of great ones.
func TestValueP15_2(t *testing.T) {
	r := chance(3)
	for n := 1; n <= 24; n++ {
		s := draw(r)
		for i, want := range values(s, n) {
			got, ok := chain.Value(s, n, i)
			wantValue(t, "P15.2: Value", got, ok, want, true)
		}
	}
	for _, n := range []int{63, 64, 65, 1000, 4095, 4096} {
		s := draw(r)
		l := values(s, n)
		for _, i := range []int{0, 1, 2, n / 2, n - 2, n - 1, n} {
			got, ok := chain.Value(s, n, i)
			wantValue(t, "P15.2: Value of a long chain", got, ok, l[i], true)
		}
	}
}

// TestAnchorP15_2: the value of index 0, by the model.
func TestAnchorP15_2(t *testing.T) {
	for _, s := range seeds(chance(4)) {
		l := line(s, api.MaxRides)
		for n := 1; n <= api.MaxRides; n += 1 + n/3 {
			got, ok := chain.Anchor(s, n)
			wantValue(t, "P15.2: Anchor", got, ok, l[n], true)
		}
		for _, n := range edges {
			there := within(1, n, api.MaxRides)
			var want api.Hash
			if there {
				want = l[n]
			}
			got, ok := chain.Anchor(s, n)
			wantValue(t, "P15.2: Anchor at an edge", got, ok, want, there)
		}
	}
}

// TestEdgesP15_2: every pair of a number of rides and an index at the bounds, and the indexes around the number of rides itself.
func TestEdgesP15_2(t *testing.T) {
	s := draw(chance(5))
	l := line(s, api.MaxRides)
	for _, n := range edges {
		for _, index := range append([]int{n - 1, n, n + 1}, edges...) {
			there := within(1, n, api.MaxRides) && within(0, index, n)
			var want api.Hash
			if there {
				want = l[n-index]
			}
			got, ok := chain.Value(s, n, index)
			wantValue(t, "P15.2: Value at an edge", got, ok, want, there)
		}
	}
}

// TestCheckP15_3: of a chain, each value checks at its own index alone, whatever greater number of rides is told.
func TestCheckP15_3(t *testing.T) {
	const n = 12
	l := values(draw(chance(6)), n)
	for i, v := range l {
		for index := -2; index <= n+2; index++ {
			for _, rides := range []int{-1, 0, 1, i - 1, i, i + 1, n - 1, n, n + 1, 4096, 4097} {
				want := i == index && within(1, rides, api.MaxRides) && index <= rides
				if got := chain.Check(l[0], rides, index, v); got != want {
					t.Errorf("P15.3: the value of index %d at %d of %d: %v", i, index, rides, got)
				}
			}
		}
	}
}

// TestCheckEdgesP15_3: the anchor itself, and a value that leads to it, with numbers at all bounds.
func TestCheckEdgesP15_3(t *testing.T) {
	s := draw(chance(7))
	l := line(s, api.MaxRides)
	for _, n := range edges {
		for _, index := range append([]int{n - 1, n, n + 1}, edges...) {
			want := within(1, n, api.MaxRides) && within(0, index, n)
			// Behind a number that is out of bounds the value is taken that would lead on if it were brought within them.
			to := l[min(max(index, 0), api.MaxRides)]
			if got := chain.Check(to, n, index, s); got != want {
				t.Errorf("P15.3: Check(_, %d, %d, _) = %v", n, index, got)
			}
		}
	}
}

// TestCheckNowhereP15_3: values and anchors that are off by one bit, or not of the chain at all.
func TestCheckNowhereP15_3(t *testing.T) {
	const n = 6
	r := chance(8)
	l := values(draw(r), n)
	for i, v := range l {
		for _, f := range flips(v) {
			if chain.Check(l[0], n, i, f) {
				t.Errorf("P15.3: index %d checks with another value", i)
			}
		}
		for _, f := range flips(l[0]) {
			if chain.Check(f, n, i, v) {
				t.Errorf("P15.3: index %d checks at another anchor", i)
			}
		}
		if chain.Check(l[0], n, i, draw(r)) || chain.Check(l[0], n, i, api.Hash{}) || chain.Check(api.Hash{}, n, i, v) {
			t.Errorf("P15.3: index %d checks with a value from elsewhere", i)
		}
	}
}

// TestLinkP15_4: all pairs of values of a chain, at all pairs of indexes around it: it hangs on what lies between them.
func TestLinkP15_4(t *testing.T) {
	const n = 7
	l := values(draw(chance(9)), n)
	for i, low := range l {
		for j, high := range l {
			for early := -2; early <= n+2; early++ {
				for late := -2; late <= n+2; late++ {
					want := early >= 0 && late >= early && late-early == j-i
					if got := chain.Link(early, low, late, high); got != want {
						t.Errorf("P15.4: the values of %d and %d at %d and %d: %v", i, j, early, late, got)
					}
				}
			}
		}
	}
}

// TestLinkEdgesP15_4: every pair of numbers at the bounds, with the value that would lead on if what is refused were not.
func TestLinkEdgesP15_4(t *testing.T) {
	s := draw(chance(10))
	l := line(s, api.MaxRides)
	for _, early := range edges {
		for _, late := range append([]int{early - 1, early, early + 1, early + 4096}, edges...) {
			want := early >= 0 && early <= late && late <= api.MaxRides
			low := s
			if d := late - early; within(0, d, api.MaxRides) {
				low = l[d]
			}
			if got := chain.Link(early, low, late, s); got != want {
				t.Errorf("P15.4: Link(%d, _, %d, _) = %v", early, late, got)
			}
		}
	}
}

// TestLinkNowhereP15_4: values that are off by one bit, or not of the chain at all.
func TestLinkNowhereP15_4(t *testing.T) {
	r := chance(11)
	s := draw(r)
	l := line(s, 4)
	for d, low := range l {
		for _, f := range flips(s) {
			if chain.Link(1, low, 1+d, f) {
				t.Errorf("P15.4: another value links over %d", d)
			}
		}
		for _, f := range flips(low) {
			if chain.Link(1, f, 1+d, s) {
				t.Errorf("P15.4: links to another value over %d", d)
			}
		}
		if chain.Link(1, low, 1+d, draw(r)) || chain.Link(1, draw(r), 1+d, s) || chain.Link(1, low, 1+d, api.Hash{}) {
			t.Errorf("P15.4: values from elsewhere link over %d", d)
		}
	}
}

// TestChecksAndLinksP15_7: each value of a chain checks and links to every earlier one; and what links to one that checks, checks, up to the number of rides.
func TestChecksAndLinksP15_7(t *testing.T) {
	const n, more = 20, 26
	s := draw(chance(12))
	longer := make([]api.Hash, more+1)
	for i := range longer {
		longer[i], _ = chain.Value(s, more, i)
	}
	for late, high := range longer {
		if got := chain.Check(longer[0], n, late, high); got != (late <= n) {
			t.Errorf("P15.7: Check of index %d = %v", late, got)
		}
		for early, low := range longer[:late+1] {
			if !chain.Link(early, low, late, high) {
				t.Errorf("P15.7: index %d does not link to %d", late, early)
			}
		}
	}
}

// TestStepsAddUpP15_7: a and then b steps are a + b, and where that is above MaxRides it is refused as one call alone.
func TestStepsAddUpP15_7(t *testing.T) {
	r := chance(13)
	s := draw(r)
	for range 60 {
		a := r.IntN(api.MaxRides + 1)
		b := r.IntN(api.MaxRides + 1 - a)
		half, ok := chain.Iterate(s, a)
		both, ok2 := chain.Iterate(half, b)
		whole, ok3 := chain.Iterate(s, a+b)
		if !ok || !ok2 || !ok3 || both != whole {
			t.Errorf("P15.7: %d and then %d steps are not %d", a, b, a+b)
		}
	}
	one, _ := chain.Iterate(s, 1)
	far, ok := chain.Iterate(one, api.MaxRides)
	if want := line(s, api.MaxRides+1)[api.MaxRides+1]; !ok || far != want {
		t.Errorf("P15.7: 1 and then 4096 steps = %x, %v", far, ok)
	}
}

// TestExamplesP15: the rows of the chapter's table.
func TestExamplesP15(t *testing.T) {
	s := draw(chance(14))
	one := chain.Step(s)
	two := chain.Step(one)
	three := chain.Step(two)
	for _, c := range []struct {
		n     int
		want  api.Hash
		there bool
	}{{0, s, true}, {2, two, true}, {-1, s, false}, {4097, s, false}} {
		got, ok := chain.Iterate(s, c.n)
		wantValue(t, "Iterate", got, ok, c.want, c.there)
	}
	for _, c := range []struct {
		n, index int
		want     api.Hash
		there    bool
	}{{3, 3, s, true}, {3, 1, two, true}, {3, 0, three, true}, {3, 4, s, false}, {0, 0, s, false}} {
		got, ok := chain.Value(s, c.n, c.index)
		wantValue(t, "Value", got, ok, c.want, c.there)
	}
	a, ok := chain.Anchor(s, 3)
	wantValue(t, "Anchor", a, ok, three, true)
	none, ok := chain.Anchor(s, 4097)
	wantValue(t, "Anchor", none, ok, a, false)
	if !chain.Check(a, 3, 3, s) || !chain.Check(a, 3, 2, one) || !chain.Check(a, 3, 0, a) || chain.Check(a, 3, 2, s) || chain.Check(a, 2, 3, s) {
		t.Error("Check")
	}
	if !chain.Link(1, two, 3, s) || !chain.Link(3, s, 3, s) || chain.Link(3, s, 1, two) {
		t.Error("Link")
	}
	w, ok := chain.Walk(s, 3)
	if !ok {
		t.Fatal("Walk(s, 3)")
	}
	wantNext(t, w, 1, two)
	wantNext(t, w, 2, one)
	wantNext(t, w, 3, s)
	wantEnd(t, w)
	w, ok = chain.Walk(s, 1)
	if !ok {
		t.Fatal("Walk(s, 1)")
	}
	wantNext(t, w, 1, s)
	if w.Pebbles() > 1 || w.Steps() != 0 {
		t.Errorf("Walk(s, 1): %d pebbles, %d steps", w.Pebbles(), w.Steps())
	}
}

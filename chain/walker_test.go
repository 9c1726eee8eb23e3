package chain_test

import (
	"sync"
	"testing"

	"farebox/api"
	"farebox/chain"
)

// someRides are all small numbers of rides, the powers of two with their neighbours, and others between them.
func someRides() []int {
	var l []int
	for n := 1; n <= 300; n++ {
		l = append(l, n)
	}
	for p := 512; p <= api.MaxRides; p *= 2 {
		l = append(l, p-1, p)
		if p < api.MaxRides {
			l = append(l, p+1, p+p/3, p+p/2)
		}
	}
	return l
}

// start is a Walker that must be there.
func start(t *testing.T, seed api.Hash, n int) *chain.Walker {
	t.Helper()
	w, ok := chain.Walk(seed, n)
	if !ok || w == nil {
		t.Fatalf("P15.5: Walk(_, %d) = %v, %v", n, w, ok)
	}
	return w
}

// wantNext asks for one value.
func wantNext(t *testing.T, w *chain.Walker, index int, want api.Hash) {
	t.Helper()
	if got, v, ok := w.Next(); got != index || v != want || !ok {
		t.Fatalf("P15.5: Next = %d, %x, %v, want %d, %x", got, v, ok, index, want)
	}
}

// wantEnd asks, more than once, that nothing is left.
func wantEnd(t *testing.T, w *chain.Walker) {
	t.Helper()
	for range 3 {
		if got, v, ok := w.Next(); got != 0 || v != (api.Hash{}) || ok {
			t.Fatalf("P15.5: Next behind the last = %d, %x, %v", got, v, ok)
		}
	}
}

// wantThrift asks for the bounds of a Walker of n that has told so many, and that its steps have not fallen; it answers them.
func wantThrift(t *testing.T, w *chain.Walker, n, told, before int) int {
	t.Helper()
	least := 0
	if told < n {
		least = 1
	}
	if p := w.Pebbles(); !within(least, p, lg(n)+1) {
		t.Fatalf("P15.6: %d values are kept of %d behind %d", p, n, told)
	}
	steps := w.Steps()
	if steps < before || told > 0 && steps < n-1 || 2*steps > n*lg(n) {
		t.Fatalf("P15.6: %d steps of %d behind %d, %d before", steps, n, told, before)
	}
	if w.Steps() != steps {
		t.Fatalf("P15.6: %d steps, and %d if asked again", steps, w.Steps())
	}
	return steps
}

// TestWalkRefusesP15_5: which numbers of rides have a Walker.
func TestWalkRefusesP15_5(t *testing.T) {
	for _, s := range seeds(chance(21)) {
		for _, n := range edges {
			w, ok := chain.Walk(s, n)
			if want := within(1, n, api.MaxRides); ok != want || (w != nil) != want {
				t.Errorf("P15.5: Walk(_, %d) = %v, %v", n, w, ok)
			}
		}
	}
}

// TestEveryNextP15_5P15_6: every value of Walkers of many numbers of rides, and what each is like behind Walk, behind every Next and behind the last.
func TestEveryNextP15_5P15_6(t *testing.T) {
	r := chance(22)
	for i, n := range someRides() {
		s := seeds(r)[i%4]
		w := start(t, s, n)
		steps := wantThrift(t, w, n, 0, 0)
		for i, want := range values(s, n)[1:] {
			wantNext(t, w, i+1, want)
			steps = wantThrift(t, w, n, i+1, steps)
		}
		for range 3 {
			wantEnd(t, w)
			steps = wantThrift(t, w, n, n, steps)
		}
	}
}

// TestUnaskedP15_5: what Next answers does not hang on whether Pebbles and Steps are asked.
func TestUnaskedP15_5(t *testing.T) {
	s := draw(chance(23))
	for _, n := range []int{1, 2, 3, 37, 64} {
		w := start(t, s, n)
		for i, want := range values(s, n)[1:] {
			wantNext(t, w, i+1, want)
		}
		wantEnd(t, w)
	}
}

// TestCountedP15_6: no fewer steps are told than are needed with as few values kept as are told (and the one that a Next tells, which it may drop).
func TestCountedP15_6(t *testing.T) {
	s := draw(chance(24))
	for n := 1; n <= 130; n++ {
		w := start(t, s, n)
		most := w.Pebbles()
		for range n {
			w.Next()
			most = max(most, w.Pebbles())
		}
		if least := fewest(n, most+1)[n]; w.Steps() < least {
			t.Errorf("P15.6: %d steps for %d values, which need %d with %d kept", w.Steps(), n, least, most)
		}
	}
}

// TestByTurnsP15: Walkers share nothing, the same seed or not, the same number or not.
func TestByTurnsP15(t *testing.T) {
	r := chance(25)
	s := draw(r)
	type walk struct {
		seed api.Hash
		n    int
	}
	walks := []walk{{s, 100}, {s, 100}, {s, 64}, {draw(r), 100}, {draw(r), 33}, {s, 1}}
	var walkers []*chain.Walker
	var lists [][]api.Hash
	var steps []int
	for _, k := range walks {
		walkers = append(walkers, start(t, k.seed, k.n))
		lists = append(lists, values(k.seed, k.n))
		steps = append(steps, 0)
	}
	told := make([]int, len(walks))
	for range 2000 {
		at := r.IntN(len(walks))
		if told[at] == walks[at].n {
			wantEnd(t, walkers[at])
		} else {
			told[at]++
			wantNext(t, walkers[at], told[at], lists[at][told[at]])
		}
		for i, w := range walkers {
			was := steps[i]
			steps[i] = wantThrift(t, w, walks[i].n, told[i], was)
			if i != at && steps[i] != was {
				t.Fatalf("walker %d has made steps in another one's Next", i)
			}
		}
	}
}

// TestAtOnceP15: Walkers that go at the same time do not meet.
func TestAtOnceP15(t *testing.T) {
	s := draw(chance(26))
	l := values(s, 200)
	var all sync.WaitGroup
	for range 8 {
		all.Go(func() {
			w, _ := chain.Walk(s, 200)
			for i := 1; i <= 200; i++ {
				if index, v, ok := w.Next(); index != i || v != l[i] || !ok {
					t.Errorf("P15.5: Next = %d, %x, %v, want %d", index, v, ok, i)
					return
				}
			}
		})
	}
	all.Wait()
}

// TestNoWalkerP15: a Walker that Walk has not made does not panic; what it answers is free.
func TestNoWalkerP15(t *testing.T) {
	for _, w := range []*chain.Walker{nil, {}} {
		w.Next()
		w.Pebbles()
		w.Steps()
		w.Next()
	}
}

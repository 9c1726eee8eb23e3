package chain

import "farebox/api"

// Walker tells a chain's values from index 1 on, and keeps few of them.
type Walker struct {
	rides int
	told  int              // the index that was told last
	steps int              // the steps that were made
	kept  map[int]api.Hash // by the number of steps from the seed; what is told is kept no longer
}

// Walk begins ahead of index 1.
func Walk(seed api.Hash, n int) (*Walker, bool) {
	if !isRides(n) {
		return nil, false
	}
	return &Walker{rides: n, kept: map[int]api.Hash{0: seed}}, true
}

// Next tells the next index and its value.
func (w *Walker) Next() (int, api.Hash, bool) {
	if w == nil || w.told == w.rides {
		return 0, api.Hash{}, false
	}
	w.told++
	away := w.rides - w.told
	v := w.reach(away)
	delete(w.kept, away)
	return w.told, v, true
}

// Pebbles is the number of values that are kept.
func (w *Walker) Pebbles() int {
	if w == nil {
		return 0
	}
	return len(w.kept)
}

// Steps is the number of steps that were made since Walk.
func (w *Walker) Steps() int {
	if w == nil {
		return 0
	}
	return w.steps
}

// reach is the value so many steps from the seed, ahead of which all are told.
// What lies between the farthest kept value and that one is halved, and the value in the middle kept, over and over:
// a piece of m values costs m/2 steps and then what its two halves cost, of which the near one is not begun
// before all that was kept for the far one is dropped. Hence the bounds, lg(n) + 1 values and n * lg(n) / 2 steps.
func (w *Walker) reach(away int) api.Hash {
	at := w.farthest()
	for at < away {
		half := (away - at + 1) / 2
		w.kept[at+half] = repeat(w.counted(), w.kept[at], half)
		at += half
	}
	return w.kept[away]
}

// farthest is how many steps from the seed the farthest of the kept values is.
func (w *Walker) farthest() int {
	far := 0
	for at := range w.kept {
		far = max(far, at)
	}
	return far
}

// counted is a step that is counted.
func (w *Walker) counted() func(api.Hash) api.Hash {
	return func(v api.Hash) api.Hash {
		w.steps++
		return Step(v)
	}
}

package bag

import (
	"maps"
	"slices"
)

// shelf holds things, each under a number.
type shelf[T any] map[int]T

// take tells what lies under a number, and lets it lie there no longer.
func (s shelf[T]) take(n int) (T, bool) {
	x, ok := s[n]
	delete(s, n)
	return x, ok
}

// numbers are all under which something lies, rising.
func (s shelf[T]) numbers() []int { return slices.Sorted(maps.Keys(s)) }

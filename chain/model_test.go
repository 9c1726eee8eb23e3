package chain_test

import (
	"crypto/sha256"
	"math"
	"math/rand/v2"

	"farebox/api"
)

// edges are the numbers around every bound of the chapter, and the ends of an int.
var edges = []int{math.MinInt, math.MinInt + 1, -4097, -4096, -2, -1, 0, 1, 2, 3, 4, 5, 4094, 4095, 4096, 4097, 4098, 8192, 1 << 32, math.MaxInt - 4096, math.MaxInt - 1, math.MaxInt}

func chance(n uint64) *rand.Rand { return rand.New(rand.NewPCG(15, n)) }

// draw is a value by chance.
func draw(r *rand.Rand) api.Hash {
	var h api.Hash
	for i := range h {
		h[i] = byte(r.Uint32())
	}
	return h
}

// seeds are values by chance, and those with all bits the same.
func seeds(r *rand.Rand) []api.Hash {
	var ones api.Hash
	for i := range ones {
		ones[i] = 255
	}
	return []api.Hash{{}, ones, draw(r), draw(r)}
}

// line is a value and all that up to so many steps from it lead to, by Go's own hash.
func line(v api.Hash, steps int) []api.Hash {
	l := make([]api.Hash, steps+1)
	for i := range l {
		l[i] = v
		v = sha256.Sum256(v[:])
	}
	return l
}

// values are those of a chain, by their indexes.
func values(seed api.Hash, n int) []api.Hash {
	l := make([]api.Hash, n+1)
	for away, v := range line(seed, n) {
		l[n-away] = v
	}
	return l
}

// within tells whether a number is from one bound to another.
func within(low, x, high int) bool { return low <= x && x <= high }

// flips are all values that differ from one in one bit.
func flips(v api.Hash) []api.Hash {
	var l []api.Hash
	for i := range 8 * len(v) {
		f := v
		f[i/8] ^= 1 << (i % 8)
		l = append(l, f)
	}
	return l
}

// lg is the least k with 2^k not below n.
func lg(n int) int {
	k := 0
	for 1<<k < n {
		k++
	}
	return k
}

// fewest is how many steps are needed to tell a chain's values from the anchor's end on, for numbers of rides up to n, with at most so many values kept:
// either nothing is kept between the seed and the first value, or one is, and then those beyond it are told with one room less, and those up to it with all of them.
func fewest(n, room int) []int {
	var before []int
	for r := 1; r <= room; r++ {
		now := make([]int, n+1)
		for m := 2; m <= n; m++ {
			now[m] = m - 1 + now[m-1]
			for k := 1; k < m && r > 1; k++ {
				now[m] = min(now[m], k+before[m-k]+now[k])
			}
		}
		before = now
	}
	return before
}

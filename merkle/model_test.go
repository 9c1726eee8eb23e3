package merkle_test

import (
	"crypto/sha256"
	"math"
	"math/rand/v2"
	"slices"
	"sync"

	"farebox/api"
	"farebox/merkle"
)

// edges are the numbers around every bound of the chapter, and the ends of an int.
var edges = []int{math.MinInt, math.MinInt + 1, -65537, -65536, -2, -1, 0, 1, 2, 3, 4, 5, 65535, 65536, 65537, 65538, 1 << 32, math.MaxInt - 1, math.MaxInt}

func chance(n uint64) *rand.Rand { return rand.New(rand.NewPCG(16, n)) }

// draw is a hash by chance.
func draw(r *rand.Rand) api.Hash {
	var h api.Hash
	for i := range h {
		h[i] = byte(r.Uint32())
	}
	return h
}

// drawList is so many hashes by chance.
func drawList(r *rand.Rand, n int) []api.Hash {
	l := make([]api.Hash, n)
	for i := range l {
		l[i] = draw(r)
	}
	return l
}

// most are one leaf more than a tree may have.
var most = sync.OnceValue(func() []api.Hash { return drawList(chance(0), api.MaxLeaves+1) })

// greatSizes are numbers of leaves by the powers of two above the small ones.
func greatSizes() []int {
	var l []int
	for k := 128; k <= api.MaxLeaves; k *= 2 {
		l = append(l, k-1, k, k+1)
	}
	return l[:len(l)-1]
}

// places are numbers from 0 to n - 1: those by the ends, by the powers of two, and some by chance.
func places(r *rand.Rand, n int) []int {
	l := []int{0, n - 1, n / 2, r.IntN(n), r.IntN(n), r.IntN(n)}
	for k := 1; k < n; k *= 2 {
		l = append(l, k-1, k, n-k)
	}
	slices.Sort(l)
	return slices.Compact(l)
}

// flip is a hash with one bit turned.
func flip(h api.Hash, bit int) api.Hash {
	h[bit/8%len(h)] ^= 1 << (bit % 8)
	return h
}

// modelNode is the hash over two hashes, by Go's own hash.
func modelNode(left, right api.Hash) api.Hash {
	return sha256.Sum256(append(append([]byte{1}, left[:]...), right[:]...))
}

// modelRoot is the root, made level by level from the leaves up: neighbours are joined, one that is left over at the end goes up as it is.
func modelRoot(leaves []api.Hash) api.Hash {
	if len(leaves) == 0 {
		return sha256.Sum256(nil)
	}
	for len(leaves) > 1 {
		leaves = modelUp(leaves)
	}
	return leaves[0]
}

func modelUp(level []api.Hash) []api.Hash {
	var up []api.Hash
	for i := 0; i+1 < len(level); i += 2 {
		up = append(up, modelNode(level[i], level[i+1]))
	}
	if len(level)%2 == 1 {
		up = append(up, level[len(level)-1])
	}
	return up
}

// modelPath is the neighbours of a leaf and of what is above it, level by level.
func modelPath(leaves []api.Hash, index int) []api.Hash {
	var path []api.Hash
	for level := leaves; len(level) > 1; level = modelUp(level) {
		if beside := index ^ 1; beside < len(level) {
			path = append(path, level[beside])
		}
		index /= 2
	}
	return path
}

// modelBridge is the bridge, by the chapter's words.
func modelBridge(leaves []api.Hash, first int) []api.Hash {
	if first == 0 {
		return nil
	}
	var proof []api.Hash
	var bridge func(m, low, high int, whole bool)
	bridge = func(m, low, high int, whole bool) {
		n, k := high-low, 1
		if m == n {
			if !whole {
				proof = append(proof, modelRoot(leaves[low:high]))
			}
			return
		}
		for 2*k < n {
			k *= 2
		}
		if m <= k {
			bridge(m, low, low+k, whole)
			proof = append(proof, modelRoot(leaves[low+k:high]))
		} else {
			bridge(m-k, low+k, high, false)
			proof = append(proof, modelRoot(leaves[low:low+k]))
		}
	}
	bridge(first, 0, len(leaves), true)
	return proof
}

// modelCheckInclusion goes up by the binary digits of the index and of the last one's, as RFC 9162 tells it (2.1.3.2).
func modelCheckInclusion(leaf api.Hash, index, size int, proof []api.Hash, root api.Hash) bool {
	if size > api.MaxLeaves || index < 0 || index >= size {
		return false
	}
	at, last, got := index, size-1, leaf
	for _, h := range proof {
		if last == 0 {
			return false
		}
		if at%2 == 1 || at == last {
			got = modelNode(h, got)
			for at%2 == 0 && at > 0 {
				at, last = at/2, last/2
			}
		} else {
			got = modelNode(got, h)
		}
		at, last = at/2, last/2
	}
	return last == 0 && got == root
}

// modelCheckConsistency goes up in the same way (RFC 9162, 2.1.4.2), but where the chapter has words of its own: of no first leaves, and of all.
func modelCheckConsistency(first, size int, old, root api.Hash, proof []api.Hash) bool {
	if size > api.MaxLeaves || first < 0 || first > size {
		return false
	}
	if first == 0 {
		return len(proof) == 0 && old == sha256.Sum256(nil)
	}
	if first == size {
		return len(proof) == 0 && old == root
	}
	if first&(first-1) == 0 {
		proof = append([]api.Hash{old}, proof...)
	}
	if len(proof) == 0 {
		return false
	}
	at, last := first-1, size-1
	for at%2 == 1 {
		at, last = at/2, last/2
	}
	was, is := proof[0], proof[0]
	for _, h := range proof[1:] {
		if last == 0 {
			return false
		}
		if at%2 == 1 || at == last {
			was, is = modelNode(h, was), modelNode(h, is)
			for at%2 == 0 && at > 0 {
				at, last = at/2, last/2
			}
		} else {
			is = modelNode(is, h)
		}
		at, last = at/2, last/2
	}
	return last == 0 && was == old && is == root
}

// modelRoots are the roots of the first 0, 1, 2 .. leaves: full trees of one size are joined as soon as there are two.
func modelRoots(leaves []api.Hash) []api.Hash {
	type full struct {
		size int
		root api.Hash
	}
	var peaks []full
	roots := []api.Hash{sha256.Sum256(nil)}
	for _, h := range leaves {
		peaks = append(peaks, full{1, h})
		for n := len(peaks); n > 1 && peaks[n-2].size == peaks[n-1].size; n-- {
			peaks = append(peaks[:n-2], full{2 * peaks[n-1].size, modelNode(peaks[n-2].root, peaks[n-1].root)})
		}
		root := peaks[len(peaks)-1].root
		for i := len(peaks) - 2; i >= 0; i-- {
			root = modelNode(peaks[i].root, root)
		}
		roots = append(roots, root)
	}
	return roots
}

// a to e are leaves' hashes of the chapter's examples.
var a, b, c, d, e = api.Hash{1}, api.Hash{2}, api.Hash{3}, api.Hash{4}, api.Hash{5}

func over(left, right api.Hash) api.Hash { return merkle.Node(left, right) }

package merkle

import (
	"math/bits"

	"farebox/api"
)

// levels is how many binary digits MaxLeaves has.
const levels = 17

// Tree grows, and keeps few hashes.
type Tree struct {
	size int
	// The leaves are cut into full trees, one for each binary digit 1 of size, the greatest first;
	// peaks holds their roots by the digits' places, and where a digit is 0 nothing of use.
	peaks [levels]api.Hash
}

// New is a tree without leaves.
func New() *Tree { return &Tree{} }

// Append lays a leaf's hash behind the others.
func (t *Tree) Append(leaf api.Hash) bool {
	if t.size >= api.MaxLeaves {
		return false
	}
	// As in adding 1 to size: each digit 1 on the way is carried, and two full trees of one size become one.
	place, peak := 0, leaf
	for t.size>>place&1 == 1 {
		peak = Node(t.peaks[place], peak)
		place++
	}
	t.peaks[place] = peak
	t.size++
	return true
}

// Size is the number of leaves.
func (t *Tree) Size() int { return t.size }

// Root is the hash of the tree.
func (t *Tree) Root() api.Hash {
	if t.size == 0 {
		return noRoot()
	}
	place := bits.TrailingZeros(uint(t.size))
	root := t.peaks[place]
	for place++; place < levels; place++ {
		if t.size>>place&1 == 1 {
			root = Node(t.peaks[place], root)
		}
	}
	return root
}

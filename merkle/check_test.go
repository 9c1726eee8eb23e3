package merkle_test

import (
	"crypto/sha256"
	"math"
	"slices"
	"testing"

	"farebox/api"
	"farebox/merkle"
)

// spoilt are lists that differ from a proof: one hash too few or too many, at every place, one hash turned, two that have changed places.
func spoilt(proof []api.Hash) [][]api.Hash {
	n := len(proof)
	out := [][]api.Hash{append(slices.Clone(proof), c), append([]api.Hash{c}, proof...), append(slices.Clone(proof), slices.Repeat([]api.Hash{c}, 30)...)}
	for i, h := range proof {
		out = append(out, slices.Delete(slices.Clone(proof), i, i+1), slices.Insert(slices.Clone(proof), i, h))
		for _, bit := range []int{0, 7, 100, 255} {
			turned := slices.Clone(proof)
			turned[i] = flip(h, bit)
			out = append(out, turned)
		}
		if i > 0 && h != proof[i-1] {
			swapped := slices.Clone(proof)
			swapped[i-1], swapped[i] = h, proof[i-1]
			out = append(out, swapped)
		}
	}
	if n > 1 {
		out = append(out, nil)
	}
	return out
}

// smallLists are lists of 1 to 17 leaves, by chance and all 0: there a hash that is missing must not pass for one that is 0.
func smallLists(seed uint64) [][]api.Hash {
	r := chance(seed)
	var lists [][]api.Hash
	for n := 1; n <= 17; n++ {
		lists = append(lists, drawList(r, n), make([]api.Hash, n))
	}
	return lists
}

// TestCheckInclusionP16_5: each leaf of all small lists checks with its own path alone, and with no other leaf or root.
func TestCheckInclusionP16_5(t *testing.T) {
	for _, l := range smallLists(21) {
		n, root := len(l), modelRoot(l)
		for i, leaf := range l {
			path := modelPath(l, i)
			if !merkle.CheckInclusion(leaf, i, n, path, root) {
				t.Errorf("P16.5: leaf %d of %d does not check", i, n)
			}
			for _, p := range spoilt(path) {
				if merkle.CheckInclusion(leaf, i, n, p, root) {
					t.Errorf("P16.5: leaf %d of %d checks with %x, its path is %x", i, n, p, path)
				}
			}
			for bit := range 256 {
				if merkle.CheckInclusion(flip(leaf, bit), i, n, path, root) || merkle.CheckInclusion(leaf, i, n, path, flip(root, bit)) {
					t.Errorf("P16.5: leaf %d of %d checks with bit %d turned", i, n, bit)
				}
			}
			if n > 1 && merkle.CheckInclusion(leaf, i, n, path, leaf) {
				t.Errorf("P16.5: leaf %d of %d checks as the root", i, n)
			}
		}
	}
}

// TestCheckInclusionElsewhereP16_5: each path at every other index and size: it checks just where as many hashes lie on the same sides.
func TestCheckInclusionElsewhereP16_5(t *testing.T) {
	r := chance(22)
	for n := 1; n <= 12; n++ {
		l := drawList(r, n)
		root := modelRoot(l)
		for i, leaf := range l {
			path := modelPath(l, i)
			for size := -2; size <= 20; size++ {
				for index := -2; index <= size+2; index++ {
					want := modelCheckInclusion(leaf, index, size, path, root)
					if got := merkle.CheckInclusion(leaf, index, size, path, root); got != want {
						t.Errorf("P16.5: leaf %d of %d at %d of %d: %v", i, n, index, size, got)
					}
				}
			}
		}
	}
}

// TestCheckInclusionSidesP16_5: any hashes, as many as the path has, are laid beside on the path's sides; so an index and a size are told by their roots.
func TestCheckInclusionSidesP16_5(t *testing.T) {
	r := chance(23)
	for _, size := range []int{1, 2, 3, 6, 7, 8, 9, 100, 4097, 65535, 65536} {
		for _, index := range places(r, size) {
			for count := range 18 {
				proof := drawList(r, count)
				leaf := draw(r)
				root, there := climbed(leaf, index, size, proof)
				if got := merkle.CheckInclusion(leaf, index, size, proof, root); got != there {
					t.Errorf("P16.5: %d hashes at %d of %d: %v", count, index, size, got)
				}
			}
		}
	}
}

// leafSides tells of each hash of a leaf's path, from the first on, whether it lies at the right, by the chapter's words.
func leafSides(index, size int) []bool {
	var right []bool
	for size > 1 {
		k := 1
		for 2*k < size {
			k *= 2
		}
		right = append(right, index < k)
		if index < k {
			size = k
		} else {
			index, size = index-k, size-k
		}
	}
	slices.Reverse(right)
	return right
}

// laid is what a hash comes to with others laid beside it, as many as there are both hashes and sides.
func laid(h api.Hash, right []bool, proof []api.Hash) api.Hash {
	for i := range min(len(right), len(proof)) {
		if right[i] {
			h = modelNode(h, proof[i])
		} else {
			h = modelNode(proof[i], h)
		}
	}
	return h
}

// climbed is what any hashes come to on the path of a leaf, and whether they are as many as it has.
func climbed(leaf api.Hash, index, size int, proof []api.Hash) (api.Hash, bool) {
	right := leafSides(index, size)
	return laid(leaf, right, proof), len(right) == len(proof)
}

// TestTooFewP16_5: hashes that are too few do not check, wherever on the path they are laid, from the leaf on or from a hash that is 0.
func TestTooFewP16_5(t *testing.T) {
	r := chance(28)
	for size := 2; size <= 20; size++ {
		for index := range size {
			right := leafSides(index, size)
			for count := range len(right) {
				proof := drawList(r, count)
				for skip := range len(right) - count + 1 {
					for _, begin := range []api.Hash{a, {}} {
						if merkle.CheckInclusion(a, index, size, proof, laid(begin, right[skip:], proof)) {
							t.Errorf("P16.5: %d hashes at %d of %d check", count, index, size)
						}
					}
				}
			}
		}
	}
}

// TestCheckInclusionEdgesP16_5: every pair of a size and an index at the bounds, with nothing to lay beside and with the paths of the greatest trees.
func TestCheckInclusionEdgesP16_5(t *testing.T) {
	full := most()[:api.MaxLeaves]
	first, last := modelPath(full, 0), modelPath(full, api.MaxLeaves-1)
	root := modelRoot(full)
	for _, size := range edges {
		for _, index := range append([]int{size - 1, size, size + 1}, edges...) {
			if got, want := merkle.CheckInclusion(a, index, size, nil, a), index == 0 && size == 1; got != want {
				t.Errorf("P16.5: index %d of %d without a proof: %v", index, size, got)
			}
			if got, want := merkle.CheckInclusion(full[0], index, size, first, root), index == 0 && (size == 65535 || size == 65536); got != want {
				t.Errorf("P16.5: index %d of %d with the path of the first: %v", index, size, got)
			}
			if got, want := merkle.CheckInclusion(full[65535], index, size, last, root), index == 65535 && size == 65536; got != want {
				t.Errorf("P16.5: index %d of %d with the path of the last: %v", index, size, got)
			}
		}
	}
	above := modelRoot(most())
	for _, i := range []int{0, 1, 40000, 65535, 65536} {
		if merkle.CheckInclusion(most()[i], i, api.MaxLeaves+1, modelPath(most(), i), above) {
			t.Errorf("P16.5: leaf %d of a list that may not be checks", i)
		}
	}
}

// TestCheckConsistencyP16_7: every beginning of all small lists checks with its own bridge alone, and with no other root.
func TestCheckConsistencyP16_7(t *testing.T) {
	for _, l := range smallLists(24) {
		n, root := len(l), modelRoot(l)
		for first := 1; first <= n; first++ {
			old, bridge := modelRoot(l[:first]), modelBridge(l, first)
			if !merkle.CheckConsistency(first, n, old, root, bridge) {
				t.Errorf("P16.7: from %d to %d does not check", first, n)
			}
			for _, p := range spoilt(bridge) {
				if merkle.CheckConsistency(first, n, old, root, p) {
					t.Errorf("P16.7: from %d to %d checks with %x, its bridge is %x", first, n, p, bridge)
				}
			}
			for bit := range 256 {
				if merkle.CheckConsistency(first, n, flip(old, bit), root, bridge) || merkle.CheckConsistency(first, n, old, flip(root, bit), bridge) {
					t.Errorf("P16.7: from %d to %d checks with bit %d turned", first, n, bit)
				}
			}
			if first < n && merkle.CheckConsistency(first, n, root, old, bridge) {
				t.Errorf("P16.7: from %d to %d checks the other way round", first, n)
			}
		}
	}
}

// TestCheckConsistencyElsewhereP16_7: each bridge at all other pairs of numbers.
func TestCheckConsistencyElsewhereP16_7(t *testing.T) {
	r := chance(25)
	for n := range 11 {
		l := drawList(r, n)
		root := modelRoot(l)
		for m := range n + 1 {
			old, bridge := modelRoot(l[:m]), modelBridge(l, m)
			for size := -2; size <= 18; size++ {
				for first := -2; first <= size+2; first++ {
					want := modelCheckConsistency(first, size, old, root, bridge)
					if got := merkle.CheckConsistency(first, size, old, root, bridge); got != want {
						t.Errorf("P16.7: the bridge from %d to %d at %d and %d: %v", m, n, first, size, got)
					}
				}
			}
		}
	}
}

// TestCheckConsistencySidesP16_7: any hashes, as many as the bridge has, are laid beside on the bridge's sides.
func TestCheckConsistencySidesP16_7(t *testing.T) {
	r := chance(26)
	for _, size := range []int{1, 2, 3, 6, 7, 8, 9, 100, 4097, 65535, 65536} {
		for _, less := range places(r, size) {
			for count := range 19 {
				proof := drawList(r, count)
				old, root, there := crossed(less+1, size, draw(r), proof)
				if got := merkle.CheckConsistency(less+1, size, old, root, proof); got != there {
					t.Errorf("P16.7: %d hashes from %d to %d: %v", count, less+1, size, got)
				}
			}
		}
	}
}

// bridgeSides tells of each hash of a bridge, behind the one where it ends, whether it lies at the right, and whether it ends with whole, by the chapter's words.
func bridgeSides(m, n int) (right []bool, whole bool) {
	whole = true
	for m < n {
		k := 1
		for 2*k < n {
			k *= 2
		}
		right = append(right, m <= k)
		if m <= k {
			n = k
		} else {
			m, n, whole = m-k, n-k, false
		}
	}
	slices.Reverse(right)
	return right, whole
}

// spanned is what a hash comes to, over the first leaves and over all, with others laid beside it, as many as there are both hashes and sides.
func spanned(h api.Hash, right []bool, proof []api.Hash) (was, is api.Hash) {
	was, is = h, h
	for i := range min(len(right), len(proof)) {
		if right[i] {
			is = modelNode(is, proof[i])
		} else {
			was, is = modelNode(proof[i], was), modelNode(proof[i], is)
		}
	}
	return was, is
}

// crossed is what any hashes come to on a bridge, and whether they are as many as it has; where the old root is not made of them it is the one handed in.
func crossed(m, n int, old api.Hash, proof []api.Hash) (was, is api.Hash, there bool) {
	right, whole := bridgeSides(m, n)
	if !whole && len(proof) == 0 {
		return old, old, false
	}
	if !whole {
		old, proof = proof[0], proof[1:]
	}
	was, is = spanned(old, right, proof)
	return was, is, len(right) == len(proof)
}

// TestTooFewP16_7: hashes that are too few do not check, wherever on the bridge they are laid, from the old root on, from one of them, or from a hash that is 0.
func TestTooFewP16_7(t *testing.T) {
	r := chance(29)
	for size := 2; size <= 20; size++ {
		for first := 1; first < size; first++ {
			right, whole := bridgeSides(first, size)
			need := len(right)
			if !whole {
				need++
			}
			for count := range need {
				proof := drawList(r, count+1)
				for skip := range len(right) + 1 {
					for _, begin := range []api.Hash{a, {}, proof[0]} {
						was, is := spanned(begin, right[skip:], proof[1:])
						if merkle.CheckConsistency(first, size, was, is, proof[1:]) || count+1 < need && merkle.CheckConsistency(first, size, was, is, proof) {
							t.Errorf("P16.7: %d hashes from %d to %d check", count, first, size)
						}
					}
				}
			}
		}
	}
}

// TestCheckConsistencyEndsP16_7: of no first leaves the later root may be any; of all leaves the two are the same; with a proof both are refused.
func TestCheckConsistencyEndsP16_7(t *testing.T) {
	r := chance(27)
	none := api.Hash(sha256.Sum256(nil))
	for _, size := range []int{0, 1, 2, 3, 8, 1000, api.MaxLeaves - 1, api.MaxLeaves} {
		for _, root := range []api.Hash{none, {}, a, draw(r)} {
			if !merkle.CheckConsistency(0, size, none, root, nil) || !merkle.CheckConsistency(0, size, none, root, []api.Hash{}) {
				t.Errorf("P16.7: from 0 to %d does not check", size)
			}
			if merkle.CheckConsistency(0, size, a, root, nil) || merkle.CheckConsistency(0, size, flip(none, 9), root, nil) || merkle.CheckConsistency(0, size, api.Hash{}, root, nil) {
				t.Errorf("P16.7: from 0 to %d checks from another root", size)
			}
			if merkle.CheckConsistency(0, size, none, root, []api.Hash{root}) || merkle.CheckConsistency(0, size, none, root, []api.Hash{none}) {
				t.Errorf("P16.7: from 0 to %d checks with a proof", size)
			}
			if got := merkle.CheckConsistency(size, size, root, root, nil); got != (size > 0 || root == none) {
				t.Errorf("P16.7: from %d to %d: %v", size, size, got)
			}
			if size > 0 && merkle.CheckConsistency(size, size, root, flip(root, 77), nil) || merkle.CheckConsistency(size, size, root, root, []api.Hash{root}) {
				t.Errorf("P16.7: from %d to %d checks with another root or with a proof", size, size)
			}
		}
	}
}

// TestCheckConsistencyEdgesP16_7: every pair of numbers at the bounds, with nothing to lay beside, and the bridges of the greatest trees.
func TestCheckConsistencyEdgesP16_7(t *testing.T) {
	none := api.Hash(sha256.Sum256(nil))
	for _, size := range append([]int{math.MaxInt/2 + 1}, edges...) {
		for _, first := range append([]int{size - 1, size, size + 1}, edges...) {
			within := 0 <= first && first <= size && size <= api.MaxLeaves
			if got, want := merkle.CheckConsistency(first, size, none, none, nil), within && (first == 0 || first == size); got != want {
				t.Errorf("P16.7: from %d to %d without a proof: %v", first, size, got)
			}
		}
	}
	for _, size := range []int{api.MaxLeaves - 1, api.MaxLeaves, api.MaxLeaves + 1} {
		l := most()[:size]
		root := modelRoot(l)
		for _, first := range []int{0, 1, 2, 32767, 32768, 40000, 65534, 65535, 65536} {
			if first > size {
				continue
			}
			if got, want := merkle.CheckConsistency(first, size, modelRoot(l[:first]), root, modelBridge(l, first)), size <= api.MaxLeaves; got != want {
				t.Errorf("P16.7: from %d to %d: %v", first, size, got)
			}
		}
	}
}

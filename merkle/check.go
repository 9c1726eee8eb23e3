package merkle

import "farebox/api"

// CheckInclusion checks a proof that a leaf stands at its place.
func CheckInclusion(leaf api.Hash, index, size int, proof []api.Hash, root api.Hash) bool {
	if !inTree(index, size) {
		return false
	}
	got, ok := climb(leaf, index, size, proof)
	return ok && got == root
}

// CheckConsistency checks a proof that the tree over the first leaves is a beginning of the whole.
func CheckConsistency(first, size int, old, root api.Hash, proof []api.Hash) bool {
	if !isBeginning(first, size) {
		return false
	}
	if first == 0 {
		return len(proof) == 0 && old == noRoot()
	}
	was, is, ok := cross(first, size, true, old, proof)
	return ok && was == old && is == root
}

// climb is what a leaf and a path come to, if the path has as many hashes as that of this leaf.
func climb(leaf api.Hash, index, size int, proof []api.Hash) (api.Hash, bool) {
	if size == 1 {
		return leaf, len(proof) == 0
	}
	rest, beside, ok := takeLast(proof)
	if !ok {
		return api.Hash{}, false
	}
	k := leftSize(size)
	if index < k {
		below, ok := climb(leaf, index, k, rest)
		return Node(below, beside), ok
	}
	below, ok := climb(leaf, index-k, size-k, rest)
	return Node(beside, below), ok
}

// cross is what a bridge comes to, over the first leaves and over all of them, if it has as many hashes as it must.
func cross(first, size int, whole bool, old api.Hash, proof []api.Hash) (was, is api.Hash, ok bool) {
	if first == size {
		return land(whole, old, proof)
	}
	rest, beside, ok := takeLast(proof)
	if !ok {
		return api.Hash{}, api.Hash{}, false
	}
	k := leftSize(size)
	if first <= k {
		was, is, ok = cross(first, k, whole, old, rest)
		return was, Node(is, beside), ok
	}
	was, is, ok = cross(first-k, size-k, false, old, rest)
	return Node(beside, was), Node(beside, is), ok
}

// land is where a bridge ends: the tree over the first leaves and the one over all are the same from there down.
func land(whole bool, old api.Hash, proof []api.Hash) (was, is api.Hash, ok bool) {
	if whole {
		return old, old, len(proof) == 0
	}
	rest, end, ok := takeLast(proof)
	return end, end, ok && len(rest) == 0
}

// takeLast is a proof's last hash, which lies highest in the tree, and those ahead of it.
func takeLast(proof []api.Hash) (rest []api.Hash, last api.Hash, ok bool) {
	n := len(proof)
	if n == 0 {
		return nil, api.Hash{}, false
	}
	return proof[: n-1 : n-1], proof[n-1], true
}

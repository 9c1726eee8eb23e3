package merkle_test

import (
	"slices"
	"testing"

	"farebox/api"
	"farebox/merkle"
)

// roots are Root's own of the first 0, 1, 2 .. leaves.
func roots(t *testing.T, leaves []api.Hash) []api.Hash {
	t.Helper()
	var out []api.Hash
	for n := range len(leaves) + 1 {
		h, ok := merkle.Root(leaves[:n])
		if !ok {
			t.Fatalf("P16.9: no root of %d leaves", n)
		}
		out = append(out, h)
	}
	return out
}

// TestTakenP16_9: every Inclusion and every Consistency of all small lists is taken by its Check.
func TestTakenP16_9(t *testing.T) {
	l := drawList(chance(51), 70)
	root := roots(t, l)
	for n := range len(l) + 1 {
		for first := range n + 1 {
			bridge, ok := merkle.Consistency(l[:n], first)
			if !ok || !merkle.CheckConsistency(first, n, root[first], root[n], bridge) {
				t.Errorf("P16.9: from %d to %d is not taken", first, n)
			}
		}
		for i := range n {
			path, ok := merkle.Inclusion(l[:n], i)
			if !ok || !merkle.CheckInclusion(l[i], i, n, path, root[n]) {
				t.Errorf("P16.9: leaf %d of %d is not taken", i, n)
			}
		}
	}
}

// TestGreatTakenP16_9: the same of great lists, up to the greatest.
func TestGreatTakenP16_9(t *testing.T) {
	r := chance(52)
	for _, n := range []int{1000, 4097, api.MaxLeaves - 1, api.MaxLeaves} {
		l := most()[:n]
		root, _ := merkle.Root(l)
		for _, i := range []int{0, r.IntN(n), n / 2, n - 1} {
			path, ok := merkle.Inclusion(l, i)
			if !ok || !merkle.CheckInclusion(l[i], i, n, path, root) {
				t.Errorf("P16.9: leaf %d of %d is not taken", i, n)
			}
			old, _ := merkle.Root(l[:i+1])
			bridge, ok := merkle.Consistency(l, i+1)
			if !ok || !merkle.CheckConsistency(i+1, n, old, root, bridge) {
				t.Errorf("P16.9: from %d to %d is not taken", i+1, n)
			}
		}
	}
}

// TestOtherLogP16_9: a log that does not begin as the earlier one did is not taken by any bridge of its own, nor is a leaf that is not there by its path.
func TestOtherLogP16_9(t *testing.T) {
	r := chance(53)
	l := drawList(r, 16)
	for n := 1; n <= len(l); n++ {
		for i := range n {
			other := slices.Clone(l[:n])
			other[i] = draw(r)
			root, now := modelRoot(l[:n]), modelRoot(other)
			path, _ := merkle.Inclusion(other, i)
			if merkle.CheckInclusion(other[i], i, n, path, root) || merkle.CheckInclusion(l[i], i, n, path, now) {
				t.Errorf("P16.9: another leaf at %d of %d is taken", i, n)
			}
			for first := i + 1; first <= n; first++ {
				bridge, _ := merkle.Consistency(other, first)
				if merkle.CheckConsistency(first, n, modelRoot(l[:first]), now, bridge) {
					t.Errorf("P16.9: with another leaf at %d, from %d to %d is taken", i, first, n)
				}
			}
		}
	}
}

// TestOneProofP16_9: of all leaves and proofs made of the hashes of a tree, one alone is taken for each place.
func TestOneProofP16_9(t *testing.T) {
	leaves := []api.Hash{a, b, c, d, e}
	pool := append(slices.Clone(leaves), over(a, b), over(c, d), over(over(a, b), over(c, d)))
	root, _ := merkle.Root(leaves)
	for i, leaf := range leaves {
		path, _ := merkle.Inclusion(leaves, i)
		want := append([]api.Hash{leaf}, path...)
		taken := 0
		tuples(pool, len(want), func(l []api.Hash) {
			if merkle.CheckInclusion(l[0], i, len(leaves), l[1:], root) {
				taken++
				if !slices.Equal(l, want) {
					t.Errorf("P16.9: at %d %x is taken, and %x too", i, l, want)
				}
			}
		})
		if taken != 1 {
			t.Errorf("P16.9: at %d %d proofs are taken", i, taken)
		}
	}
}

// tuples hands on all lists of so many hashes of a pool.
func tuples(pool []api.Hash, n int, use func([]api.Hash)) {
	var lay func(ahead []api.Hash)
	lay = func(ahead []api.Hash) {
		if len(ahead) == n {
			use(ahead)
			return
		}
		for _, h := range pool {
			lay(append(slices.Clip(ahead), h))
		}
	}
	lay(nil)
}

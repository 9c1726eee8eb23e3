package merkle_test

import (
	"slices"
	"testing"

	"farebox/api"
	"farebox/merkle"
)

// wantTree asks a Tree's size and root, each twice: asking changes nothing.
func wantTree(t *testing.T, tree *merkle.Tree, size int, root api.Hash) {
	t.Helper()
	for range 2 {
		if got := tree.Size(); got != size {
			t.Fatalf("P16.8: Size = %d, want %d", got, size)
		}
		if got := tree.Root(); got != root {
			t.Fatalf("P16.8: Root of %d leaves = %x, want %x", size, got, root)
		}
	}
}

// TestTreeP16_8: size and root behind every Append, up to a full tree and beyond.
func TestTreeP16_8(t *testing.T) {
	full := most()[:api.MaxLeaves]
	roots := modelRoots(full)
	tree := merkle.New()
	wantTree(t, tree, 0, roots[0])
	for i, leaf := range full {
		if !tree.Append(leaf) {
			t.Fatalf("P16.8: leaf %d is refused", i)
		}
		if tree.Size() != i+1 || tree.Root() != roots[i+1] {
			t.Fatalf("P16.8: behind leaf %d: %d, %x, want %x", i, tree.Size(), tree.Root(), roots[i+1])
		}
	}
	for i := range 3 {
		if tree.Append(most()[api.MaxLeaves]) || tree.Append(full[i]) || tree.Append(api.Hash{}) {
			t.Error("P16.8: a full tree takes a leaf")
		}
		wantTree(t, tree, api.MaxLeaves, roots[api.MaxLeaves])
	}
}

// TestTreeIsRootP16_8: a Tree's root is that of the list, by the calls themselves.
func TestTreeIsRootP16_8(t *testing.T) {
	r := chance(31)
	for n := range 80 {
		l := drawList(r, n)
		tree := merkle.New()
		for _, leaf := range l {
			tree.Append(leaf)
		}
		want, _ := merkle.Root(l)
		wantTree(t, tree, n, want)
	}
}

// TestTwoTreesP16_8: two Trees by turns, and a third that nothing is laid into.
func TestTwoTreesP16_8(t *testing.T) {
	r := chance(32)
	one, two, none := merkle.New(), merkle.New(), merkle.New()
	var first, second []api.Hash
	for range 400 {
		leaf := draw(r)
		if r.IntN(3) == 0 {
			first = append(first, leaf)
			one.Append(leaf)
		} else {
			second = append(second, leaf)
			two.Append(leaf)
		}
		wantTree(t, one, len(first), modelRoot(first))
		wantTree(t, two, len(second), modelRoot(second))
	}
	wantTree(t, none, 0, modelRoot(nil))
	wantTree(t, merkle.New(), 0, modelRoot(nil))
}

// TestLaidBackP16_8: what is laid behind others hangs on all of them, in their order, and a leaf that comes again is one more.
func TestLaidBackP16_8(t *testing.T) {
	for _, l := range [][]api.Hash{{a, b}, {b, a}, {a, a}, {a, a, a}, {{}, {}, {}, {}}, {a, b, c, d, e}, {e, d, c, b, a}} {
		tree := merkle.New()
		for i, leaf := range l {
			tree.Append(leaf)
			wantTree(t, tree, i+1, modelRoot(slices.Clone(l[:i+1])))
		}
	}
}

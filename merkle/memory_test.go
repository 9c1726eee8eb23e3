package merkle_test

import (
	"bytes"
	"slices"
	"testing"

	"farebox/api"
	"farebox/merkle"
)

// handed is a list with other hashes ahead of it and behind it in its memory, and all of that memory.
func handed(l []api.Hash) (piece, all []api.Hash) {
	all = slices.Concat([]api.Hash{a, b}, l, []api.Hash{c, d, e}, make([]api.Hash, 40))
	return all[2 : 2+len(l)], all
}

// wreck writes over a list and over its spare room.
func wreck(l []api.Hash) {
	l = l[:cap(l)]
	for i := range l {
		l[i] = flip(l[i], 3*i)
	}
}

// ask makes every call that takes a list, writes over the answers, and lays something behind them.
func ask(l, proof []api.Hash, root api.Hash) {
	merkle.Root(l)
	for i := -1; i <= len(l)+1; i++ {
		path, _ := merkle.Inclusion(l, i)
		wreck(append(path, a, b, c))
		wreck(path)
		bridge, _ := merkle.Consistency(l, i)
		wreck(append(bridge, a, b, c))
		wreck(bridge)
		merkle.CheckInclusion(a, i, len(l), proof, root)
		merkle.CheckConsistency(i, len(l), a, root, proof)
	}
}

// TestHandedInP16_1: lists that are handed in are left as they were, what lies beside them in their memory too, whatever is done to the answers.
func TestHandedInP16_1(t *testing.T) {
	r := chance(41)
	for n := range 20 {
		for count := range 6 {
			l, all := handed(drawList(r, n))
			proof, around := handed(drawList(r, count))
			was, were := slices.Clone(all), slices.Clone(around)
			ask(l, proof, modelRoot(l))
			if !slices.Equal(all, was) || !slices.Equal(around, were) {
				t.Fatalf("P16.1: %d leaves or %d hashes of a proof are changed", n, count)
			}
		}
	}
}

// TestDataP16_1: a leaf's data is left as it was, and what lies behind it is none of it.
func TestDataP16_1(t *testing.T) {
	all := bytes.Repeat([]byte("abcdefgh"), 20)
	was := bytes.Clone(all)
	for n := range 130 {
		piece := all[5 : 5+n]
		if got, want := merkle.Leaf(piece), merkle.Leaf(bytes.Clone(piece)); got != want {
			t.Errorf("P16.1: Leaf of %d bytes = %x, want %x", n, got, want)
		}
	}
	if !bytes.Equal(all, was) {
		t.Error("P16.1: a leaf's data is changed")
	}
}

// TestBehindP16_1: what lies behind a list in its memory is none of it.
func TestBehindP16_1(t *testing.T) {
	r := chance(42)
	l := drawList(r, 40)
	for n := range l {
		piece := l[:n]
		wantRoot(t, piece, modelRoot(piece))
		for i := range n {
			wantInclusion(t, piece, i, modelPath(piece, i))
			wantConsistency(t, piece, i+1, modelBridge(piece, i+1))
		}
		path, ok := merkle.Inclusion(piece, n)
		wantRefused(t, "P16.1: Inclusion of the leaf behind the end", n, path, ok)
		bridge, ok := merkle.Consistency(piece, n+1)
		wantRefused(t, "P16.1: Consistency from beyond the end", n+1, bridge, ok)
		if n == 0 {
			continue
		}
		proof := modelPath(piece, n-1)
		short, _ := handed(proof)
		root := modelRoot(piece)
		if !merkle.CheckInclusion(piece[n-1], n-1, n, short, root) {
			t.Errorf("P16.1: a path with room behind it does not check at %d", n)
		}
		if k := len(proof); k > 0 && merkle.CheckInclusion(piece[n-1], n-1, n, proof[:k-1], root) {
			t.Errorf("P16.1: a hash behind the proof's end is taken at %d", n)
		}
	}
}

// TestProofsAreNewP16_1: proofs share nothing with the leaves nor with one another, their spare room too.
func TestProofsAreNewP16_1(t *testing.T) {
	r := chance(43)
	for n := 1; n <= 20; n++ {
		l := drawList(r, n)
		was := slices.Clone(l)
		var proofs, want [][]api.Hash
		for range 2 {
			for i := range n {
				path, _ := merkle.Inclusion(l, i)
				bridge, _ := merkle.Consistency(l, i+1)
				proofs = append(proofs, path, bridge)
				want = append(want, modelPath(was, i), modelBridge(was, i+1))
			}
		}
		for k, p := range proofs {
			if !slices.Equal(p, want[k]) {
				t.Fatalf("P16.1: proof %d of %d leaves is changed by what was done to another", k, n)
			}
			wreck(append(p, a))
			wreck(p)
			if !slices.Equal(l, was) {
				t.Fatalf("P16.1: proof %d of %d leaves shares memory with them", k, n)
			}
		}
	}
}

// TestNotKeptP16_1: what is done to a list behind a call changes no answer, and a call tells what the list is then.
func TestNotKeptP16_1(t *testing.T) {
	l := drawList(chance(44), 13)
	was := slices.Clone(l)
	path, _ := merkle.Inclusion(l, 6)
	bridge, _ := merkle.Consistency(l, 6)
	root, _ := merkle.Root(l)
	wreck(l)
	if !slices.Equal(path, modelPath(was, 6)) || !slices.Equal(bridge, modelBridge(was, 6)) || root != modelRoot(was) {
		t.Error("P16.1: an answer changes with the list")
	}
	wantRoot(t, l, modelRoot(l))
	wantInclusion(t, l, 6, modelPath(l, 6))
	wantConsistency(t, l, 6, modelBridge(l, 6))
}

// TestSharedP16_1: a proof may be a piece of other lists' memory, and of one that lies in another proof's.
func TestSharedP16_1(t *testing.T) {
	all := drawList(chance(45), 30)
	was := slices.Clone(all)
	for from := range 10 {
		for count := range 6 {
			proof := all[from : from+count]
			for index := range 11 {
				root, there := climbed(all[index], index, 11, proof)
				if got := merkle.CheckInclusion(all[index], index, 11, proof, root); got != there {
					t.Errorf("P16.1: a shared path of %d hashes at %d: %v", count, index, got)
				}
				old, root, there := crossed(index+1, 11, all[index], proof)
				if got := merkle.CheckConsistency(index+1, 11, old, root, proof); got != there {
					t.Errorf("P16.1: a shared bridge of %d hashes at %d: %v", count, index, got)
				}
			}
		}
	}
	if !slices.Equal(all, was) {
		t.Error("P16.1: a proof is changed")
	}
}

// TestNilIsEmptyP16_1: nil, empty, and empty with room behind it are the same.
func TestNilIsEmptyP16_1(t *testing.T) {
	none := modelRoot(nil)
	for _, l := range [][]api.Hash{nil, {}, drawList(chance(46), 3)[:0], make([]api.Hash, 0, 8)} {
		wantRoot(t, l, none)
		wantConsistency(t, l, 0, nil)
		for _, n := range []int{-1, 0, 1} {
			path, ok := merkle.Inclusion(l, n)
			wantRefused(t, "P16.1: Inclusion in nothing", n, path, ok)
		}
		if !merkle.CheckInclusion(a, 0, 1, l, a) || merkle.CheckInclusion(a, 0, 2, l, a) {
			t.Error("P16.1: CheckInclusion without a proof")
		}
		if !merkle.CheckConsistency(0, 5, none, a, l) || !merkle.CheckConsistency(5, 5, a, a, l) || merkle.CheckConsistency(4, 5, a, a, l) || merkle.CheckConsistency(3, 5, a, a, l) {
			t.Error("P16.1: CheckConsistency without a proof")
		}
	}
	for _, data := range [][]byte{nil, {}, []byte("abc")[:0]} {
		if got := merkle.Leaf(data); got != merkle.Leaf(nil) {
			t.Errorf("P16.1: Leaf of nothing = %x", got)
		}
	}
}

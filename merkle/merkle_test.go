package merkle_test

import (
	"crypto/sha256"
	"slices"
	"testing"

	"farebox/api"
	"farebox/bits"
	"farebox/merkle"
)

// wantRoot asks that Root answers a hash and true.
func wantRoot(t *testing.T, leaves []api.Hash, want api.Hash) {
	t.Helper()
	if got, ok := merkle.Root(leaves); got != want || !ok {
		t.Errorf("P16.3: Root of %d leaves = %x, %v, want %x", len(leaves), got, ok, want)
	}
}

// wantInclusion asks that Inclusion answers a path and true.
func wantInclusion(t *testing.T, leaves []api.Hash, index int, want []api.Hash) {
	t.Helper()
	if got, ok := merkle.Inclusion(leaves, index); !slices.Equal(got, want) || !ok {
		t.Errorf("P16.4: Inclusion of leaf %d of %d = %x, %v, want %x", index, len(leaves), got, ok, want)
	}
}

// wantConsistency asks that Consistency answers a bridge and true.
func wantConsistency(t *testing.T, leaves []api.Hash, first int, want []api.Hash) {
	t.Helper()
	if got, ok := merkle.Consistency(leaves, first); !slices.Equal(got, want) || !ok {
		t.Errorf("P16.6: Consistency from %d to %d = %x, %v, want %x", first, len(leaves), got, ok, want)
	}
}

// wantRefused asks that a call answered no hashes and false.
func wantRefused(t *testing.T, what string, n int, got []api.Hash, ok bool) {
	t.Helper()
	if len(got) != 0 || ok {
		t.Errorf("%s at %d = %d hashes, %v", what, n, len(got), ok)
	}
}

// TestHashesP16_2: data of all lengths around a block of the hash, and pairs of hashes, which are not the same the other way round.
func TestHashesP16_2(t *testing.T) {
	r := chance(1)
	for n := range 200 {
		data := make([]byte, n)
		for i := range data {
			data[i] = byte(r.Uint32())
		}
		if got, want := merkle.Leaf(data), sha256.Sum256(append([]byte{0}, data...)); got != want {
			t.Errorf("P16.2: Leaf of %d bytes = %x, want %x", n, got, want)
		}
		left, right := draw(r), draw(r)
		if got, want := merkle.Node(left, right), modelNode(left, right); got != want || merkle.Node(right, left) == want {
			t.Errorf("P16.2: Node(%x, %x) = %x, want %x", left, right, got, want)
		}
		if merkle.Leaf(append(left[:], right[:]...)) == merkle.Node(left, right) {
			t.Error("P16.2: a leaf passes for a hash over two")
		}
	}
}

// TestKnownP16_3: the roots of eight well-known leaves, as the logs of certificates have them.
func TestKnownP16_3(t *testing.T) {
	var leaves []api.Hash
	for _, x := range []struct{ data, root string }{
		{"", "6e340b9cffb37a989ca544e6bb780a2c78901d3fb33738768511a30617afa01d"},
		{"\x00", "fac54203e7cc696cf0dfcb42c92a1d9dbaf70ad9e621f4bd8d98662f00e3c125"},
		{"\x10", "aeb6bcfe274b70a14fb067a5e5578264db0fa9b51af5e0ba159158f329e06e77"},
		{" !", "d37ee418976dd95753c1c73862b9398fa2a2cf9b4ff0fdfe8b30cd95209614b7"},
		{"01", "4e3bbb1f7b478dcfe71fb631631519a3bca12c9aefca1612bfce4c13a86264d4"},
		{"@ABC", "76e67dadbcdf1e10e1b74ddc608abd2f98dfb16fbce75277b5232a127f2087ef"},
		{"PQRSTUVW", "ddb89be403809e325750d3d263cd78929c2942b7942a34b77e122c9594a74c8c"},
		{"`abcdefghijklmno", "5dc9da79a70659a9ad559cb701ded9a2ab9d823aad2f4960cfe370eff4604328"},
	} {
		leaves = append(leaves, merkle.Leaf([]byte(x.data)))
		if got, ok := merkle.Root(leaves); bits.Hex(got[:]) != x.root || !ok {
			t.Errorf("P16.3: Root of the first %d = %x, %v, want %s", len(leaves), got, ok, x.root)
		}
	}
}

// TestRootP16_3: all small lists, those by the powers of two, and those that may not be.
func TestRootP16_3(t *testing.T) {
	r := chance(2)
	for n := range 140 {
		l := drawList(r, n)
		wantRoot(t, l, modelRoot(l))
		same := slices.Repeat([]api.Hash{draw(r)}, n)
		wantRoot(t, same, modelRoot(same))
	}
	for _, n := range greatSizes() {
		wantRoot(t, most()[:n], modelRoot(most()[:n]))
	}
	for _, n := range []int{api.MaxLeaves + 1, api.MaxLeaves + 2, 2 * api.MaxLeaves} {
		if got, ok := merkle.Root(make([]api.Hash, n)); ok || got != (api.Hash{}) {
			t.Errorf("P16.3: Root of %d leaves = %x, %v", n, got, ok)
		}
	}
}

// TestInclusionP16_4: every leaf of all small lists, and leaves of great ones.
func TestInclusionP16_4(t *testing.T) {
	r := chance(3)
	for n := 1; n <= 66; n++ {
		l := drawList(r, n)
		for i := range n {
			wantInclusion(t, l, i, modelPath(l, i))
		}
	}
	for _, n := range []int{127, 128, 129, 1000, 4095, 4096, 4097} {
		for _, i := range places(r, n) {
			wantInclusion(t, most()[:n], i, modelPath(most()[:n], i))
		}
	}
	for _, n := range []int{api.MaxLeaves - 1, api.MaxLeaves} {
		for _, i := range []int{0, 32767, 32768, n - 1} {
			wantInclusion(t, most()[:n], i, modelPath(most()[:n], i))
		}
	}
}

// TestInclusionRefusedP16_4: indexes around those that there are, and lists that may not be.
func TestInclusionRefusedP16_4(t *testing.T) {
	for n := range 10 {
		l := drawList(chance(4), n)
		for _, i := range append([]int{n - 1, n, n + 1}, edges...) {
			if 0 <= i && i < n {
				continue
			}
			got, ok := merkle.Inclusion(l, i)
			wantRefused(t, "P16.4: Inclusion", i, got, ok)
		}
	}
	for _, i := range append([]int{1000, 32768}, edges...) {
		got, ok := merkle.Inclusion(most(), i)
		wantRefused(t, "P16.4: Inclusion in a list that may not be", i, got, ok)
	}
	for _, i := range []int{-1, api.MaxLeaves, api.MaxLeaves + 1} {
		got, ok := merkle.Inclusion(most()[:api.MaxLeaves], i)
		wantRefused(t, "P16.4: Inclusion in a full list", i, got, ok)
	}
}

// TestConsistencyP16_6: every beginning of all small lists, and beginnings of great ones.
func TestConsistencyP16_6(t *testing.T) {
	r := chance(5)
	for n := range 67 {
		l := drawList(r, n)
		for first := range n + 1 {
			wantConsistency(t, l, first, modelBridge(l, first))
		}
	}
	for _, n := range []int{127, 128, 129, 1000, 4095, 4096, 4097} {
		for _, first := range append(places(r, n), n) {
			wantConsistency(t, most()[:n], first, modelBridge(most()[:n], first))
		}
	}
	for _, n := range []int{api.MaxLeaves - 1, api.MaxLeaves} {
		for _, first := range []int{0, 1, 32767, 32768, n - 1, n} {
			wantConsistency(t, most()[:n], first, modelBridge(most()[:n], first))
		}
	}
}

// TestConsistencyRefusedP16_6: numbers around those that there are, and lists that may not be.
func TestConsistencyRefusedP16_6(t *testing.T) {
	for n := range 10 {
		l := drawList(chance(6), n)
		for _, first := range append([]int{n + 1, n + 2}, edges...) {
			if 0 <= first && first <= n {
				continue
			}
			got, ok := merkle.Consistency(l, first)
			wantRefused(t, "P16.6: Consistency", first, got, ok)
		}
	}
	for _, first := range append([]int{1000, 32768}, edges...) {
		got, ok := merkle.Consistency(most(), first)
		wantRefused(t, "P16.6: Consistency of a list that may not be", first, got, ok)
	}
	for _, first := range []int{-1, api.MaxLeaves + 1, api.MaxLeaves + 2} {
		got, ok := merkle.Consistency(most()[:api.MaxLeaves], first)
		wantRefused(t, "P16.6: Consistency of a full list", first, got, ok)
	}
}

// TestExamplesP16: the rows of the chapter's table.
func TestExamplesP16(t *testing.T) {
	none, ok := merkle.Root(nil)
	if bits.Hex(none[:]) != "e3b0c44298fc1c149afbf4c8996fb92427ae41e4649b934ca495991b7852b855" || !ok {
		t.Errorf("Root of nothing = %x, %v", none, ok)
	}
	three := []api.Hash{a, b, c}
	root := over(over(a, b), c)
	wantRoot(t, []api.Hash{a}, a)
	wantRoot(t, three, root)
	if h := merkle.Leaf(nil); bits.Hex(h[:]) != "6e340b9cffb37a989ca544e6bb780a2c78901d3fb33738768511a30617afa01d" {
		t.Errorf("Leaf of nothing = %x", h)
	}
	wantInclusion(t, three, 0, []api.Hash{b, c})
	wantInclusion(t, three, 1, []api.Hash{a, c})
	wantInclusion(t, three, 2, []api.Hash{over(a, b)})
	for _, i := range []int{3, -1} {
		got, ok := merkle.Inclusion(three, i)
		wantRefused(t, "Inclusion", i, got, ok)
	}
	if !merkle.CheckInclusion(c, 2, 3, []api.Hash{over(a, b)}, root) {
		t.Error("CheckInclusion of c")
	}
	if !merkle.CheckInclusion(a, 0, 1, nil, a) || merkle.CheckInclusion(a, 0, 1, []api.Hash{b}, a) || merkle.CheckInclusion(a, 0, 0, nil, a) {
		t.Error("CheckInclusion of a")
	}
	for first, want := range [][]api.Hash{nil, {b, c}, {c}, nil} {
		wantConsistency(t, three, first, want)
	}
	got, ok := merkle.Consistency(three, 4)
	wantRefused(t, "Consistency", 4, got, ok)
	wantConsistency(t, []api.Hash{a, b, c, d, e}, 3, []api.Hash{c, d, over(a, b), e})
	if !merkle.CheckConsistency(2, 3, over(a, b), root, []api.Hash{c}) || !merkle.CheckConsistency(1, 3, a, root, []api.Hash{b, c}) {
		t.Error("CheckConsistency")
	}
	if !merkle.CheckConsistency(0, 3, none, e, nil) || !merkle.CheckConsistency(3, 3, d, d, nil) || merkle.CheckConsistency(3, 2, d, d, nil) {
		t.Error("CheckConsistency of none and of all")
	}
}

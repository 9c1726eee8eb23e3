package fleet_test

import (
	"bytes"
	"fmt"
	"math"
	"slices"
	"testing"

	"farebox/api"
	"farebox/bits"
	"farebox/flash"
	"farebox/fleet"
	"farebox/frame"
	"farebox/journal"
)

// headed is a bank with a header of an epoch and a snapshot.
func headed(epoch uint64, snapshot []byte) []byte {
	b, _ := frame.Encode('H', bits.Join(bits.StoreBE(epoch), bits.StoreBE(uint32(0)), snapshot))
	return b
}

// snapshotOf is the snapshot of the state of zeros of a node.
func snapshotOf(t *testing.T, c api.Config, number int) []byte {
	t.Helper()
	f := flash.New(c.Flash)
	openAlone(t, c, number, f)
	_, found, err := journal.Open(f)
	if err != api.OK {
		t.Fatalf("the journal of node %d: %d", number, err)
	}
	return found.Snapshot
}

// wantSame asks that two fleets' nodes keep the same.
func wantSame(t *testing.T, what string, c api.Config, f, want *fleet.Fleet) {
	t.Helper()
	for number := range nodesOf(c) {
		k, up := keptBy(c, f, number)
		if w, wantUp := keptBy(c, want, number); up != wantUp || !sameKept(k, w) {
			t.Errorf("%s: node %d keeps %+v, %v, want %+v, %v", what, number, k, up, w, wantUp)
		}
	}
}

// TestResumeP26_2: all that the nodes kept is there, nothing is on its way, and the fleet goes on from there.
func TestResumeP26_2(t *testing.T) {
	old := busy(t)
	r := resume(t, config, old.f.Files())
	wantSame(t, "P26.2", config, r.f, old.f)
	if len(r.f.Bag()) != 0 || len(r.f.Trace()) != 0 || slices.Contains(r.f.Up(), false) {
		t.Errorf("P26.2: the bag %v, the trace %v, up are %v", r.f.Bag(), r.f.Trace(), r.f.Up())
	}
	if !slices.EqualFunc(r.f.Files(), old.f.Files(), sameFiles) {
		t.Errorf("P26.2: whole flashes are written to")
	}
	r.all("bag -> ok 0 4096", "ride 1 1 2 -> ok 1 2 1", "deliver 1 -> ok 1 2", "freeze 2 -> ok 2 2 3", "row 1 1 -> ok 1 0 0", "deliver 2 -> ok 2 0 4")
	if k, _ := old.f.Gate(1); k.Rows[0].Index != 1 {
		t.Errorf("P26.2: the fleet whose files were taken goes on, too: %+v", k)
	}
}

// TestResumeDownP26_2: a node that was down is up, behind what its flash tells; what a crash has left is cut away.
func TestResumeDownP26_2(t *testing.T) {
	old := busy(t).all("crash 1 1 7 -> ok", "deliver 9 -> error 121", "crash 3 1 20000 -> ok", "ride 1 1 2 -> error 121", "state -> ok 1 0 1 0 1")
	r := resume(t, config, old.f.Files())
	r.all("state -> ok 1 1 1 1 1", "row 1 2 -> error 230", "row 1 1 -> ok 1 0 0", "purse 1 1 -> ok 3 2 0")
	again := resume(t, config, r.f.Files())
	wantSame(t, "P26.2", config, again.f, r.f)
	for _, number := range []int{1, 3} {
		old.all(fmt.Sprintf("restart %d -> ok", number))
	}
	wantSame(t, "P26.15", config, r.f, old.f)
}

// TestResumeCountP26_2: too few and too many files.
func TestResumeCountP26_2(t *testing.T) {
	for _, c := range edgeConfigs[:2] {
		for n := range nodesOf(c) + 4 {
			f, err := fleet.Resume(c, make([]api.Files, n))
			if want := n == nodesOf(c); (f != nil) != want || (err == api.OK) != want || !want && err != api.ErrArg {
				t.Errorf("P26.2: Resume of %d files for %d nodes = %v, %d", n, nodesOf(c), f, err)
			}
		}
	}
	bad := slices.Repeat([]api.Files{{First: headed(1, []byte("none"))}}, nodesOf(config)+1)
	if f, err := fleet.Resume(config, bad); f != nil || err != api.ErrArg {
		t.Errorf("P26.2: Resume of too many files, all of them bad = %v, %d", f, err)
	}
}

// TestResumeLongP26_2: of a file with more bytes than a bank has, so many are read.
func TestResumeLongP26_2(t *testing.T) {
	c := config
	c.Flash = 900
	files := begin(t, c).all("buy 1 3 100 -> ok 1 1", "deliver 1 -> ok 1 2", "deliver 2 -> ok 1 1").f.Files()
	want := resume(t, c, files)
	for number := range files {
		files[number].First = append(files[number].First, make([]byte, c.Flash-len(files[number].First))...)
	}
	short := resume(t, c, files)
	for number := range files {
		files[number].First = append(files[number].First, "and more"...)
		files[number].Second = append(files[number].Second, bytes.Repeat([]byte{1}, 2*c.Flash)...)
	}
	long := resume(t, c, files)
	wantSame(t, "P26.2: a bank that is full", c, short.f, want.f)
	wantSame(t, "P26.2: a bank and more", c, long.f, want.f)
}

// badFiles are files that a node cannot be opened on, with the error: a snapshot that cannot be read, and a tail in the last epoch.
func badFiles(t *testing.T, c api.Config, number int) map[api.Errno]api.Files {
	t.Helper()
	last := append(headed(math.MaxInt64, snapshotOf(t, c, number)), 0xA5)
	worn := api.ErrRange
	if number >= 1 && number <= c.Gates {
		worn = api.ErrRoom
	}
	return map[api.Errno]api.Files{
		api.ErrDamage: {First: headed(1, []byte("no node tells this"))},
		worn:          {Second: last},
	}
}

// TestResumeBadP26_2: of files that cannot be opened the error is the first node's, in their order.
func TestResumeBadP26_2(t *testing.T) {
	good := busy(t).f.Files()
	refused := func(files []api.Files, want api.Errno) {
		t.Helper()
		if f, err := fleet.Resume(config, files); f != nil || err != want {
			t.Errorf("P26.2: Resume = %v, %d, want %d", f, err, want)
		}
	}
	for number := range good {
		for err, bad := range badFiles(t, config, number) {
			files := slices.Clone(good)
			files[number] = bad
			refused(files, err)
			for later := number + 1; later < len(files); later++ {
				for _, other := range badFiles(t, config, later) {
					files[later] = other
					refused(files, err)
				}
			}
		}
	}
	resume(t, config, good)
}

// TestResumeOthersP26_2: nodes that are on each other's flashes, or have fewer rows than they keep.
func TestResumeOthersP26_2(t *testing.T) {
	good := busy(t).f.Files()
	for _, x := range []struct{ a, b int }{{0, 1}, {0, 3}, {2, 4}} {
		files := slices.Clone(good)
		files[x.a], files[x.b] = files[x.b], files[x.a]
		if f, err := fleet.Resume(config, files); f != nil || err != api.ErrDamage {
			t.Errorf("P26.2: the nodes %d and %d on each other's flash: %v, %d", x.a, x.b, f, err)
		}
	}
	c := config
	c.Rows = 1
	files := sold(t, config).all(
		"buy 1 1 1 -> ok 2 3", "deliver 3 -> ok 2 4", "revoke 1 -> ok 1 5 6", "revoke 2 -> ok 2 7 8", "deliver 5 -> ok 1", "deliver 7 -> ok 2",
	).f.Files()
	if f, err := fleet.Resume(c, files); f != nil || err != api.ErrDamage {
		t.Errorf("P26.2: two rows where one is room for: %v, %d", f, err)
	}
}

package fleet_test

import (
	"bytes"
	"slices"
	"testing"

	"farebox/api"
	"farebox/fleet"
	"farebox/script"
)

// framed is a list in the midst of a greater piece of memory; all is that memory.
func framed(list []byte) (piece, all []byte) {
	all = slices.Concat([]byte("ahead."), list, []byte("behind it"))
	return all[6 : 6+len(list)], all
}

// wreck writes over a list and its spare room, and lays something behind it.
func wreck[T any](list []T, stray T) {
	_ = append(list, stray, stray)
	list = list[:cap(list)]
	for i := range list {
		list[i] = stray
	}
	_ = append(list[:0], stray)
	_ = append(list, stray)
}

func wreckBytes(b []byte) { wreck(b, 0xEE) }

// wreckAll writes over all that a fleet answers.
func wreckAll(c api.Config, f *fleet.Fleet) {
	trace := f.Trace()
	for _, e := range trace {
		wreckBytes(e.Body)
	}
	wreck(trace, api.Event{Kind: 99, Body: []byte("stray")})
	files := f.Files()
	for _, x := range files {
		wreckBytes(x.First)
		wreckBytes(x.Second)
	}
	wreck(files, api.Files{First: []byte("stray")})
	bag := f.Bag()
	for _, m := range bag {
		wreckBytes(m.Body)
	}
	wreck(bag, api.Message{ID: 99, Body: []byte("stray")})
	wreck(f.Up(), false)
	s, _ := f.Issuer()
	for _, x := range s.Carnets {
		wreck(x.Refund.Acked, true)
	}
	wreck(s.Carnets, api.Carnet{Owner: 99})
	wreck(s.Leaves, api.Hash{99})
	for n := range nodesOf(c) {
		g, _ := f.Gate(n)
		wreck(g.Rows, api.Entry{Index: 99})
		w, _ := f.Wallet(n)
		wreck(w.Purses, api.Purse{Chain: 99})
	}
}

// lives are lines in which every kind of operation comes, most of them OK.
var lives = []string{
	"buy 1 3 100", "deliver 1", "deliver 2", "buy 2 2 7", "double 3", "deliver 3", "deliver 5", "deliver 4", "ride 1 1 1", "double 7", "deliver 7", "ride 1 1 2", "deliver 9",
	"gossip 2 1", "deliver 10", "sync 1 2", "sync 2 1", "freeze 1", "double 11", "deliver 11", "deliver 12", "head", "row 1 1", "carnet 1", "deliver 14", "crash 0 1 9", "deliver 15",
	"restart 0", "freeze 1", "deliver 16", "deliver 17", "deliver 18", "deliver 19", "pay 1", "deliver 20", "purse 1 1", "money", "revoke 2", "deliver 21", "floor 2", "deliver 23", "drop 24",
	"bag", "state", "restart 1", "restart 4", "inject 1 464201", "crash 4 1 4", "buy 2 1 1", "ride 1 2 1", "deliver 8", "bag", "head",
}

// TestHandedInP26: what an operation brings is left as it is, what lies behind it too, and is not kept; what is answered may be written over, and the fleet is as one that nobody has touched.
func TestHandedInP26(t *testing.T) {
	touched, other := begin(t, config), begin(t, config)
	met := map[int]int{}
	step := func(o api.Op) {
		t.Helper()
		piece, all := framed(o.Body)
		was := bytes.Clone(all)
		mine := o
		mine.Body = piece
		got, want := touched.f.Do(mine), other.f.Do(o)
		if !bytes.Equal(all, was) {
			t.Errorf("behind %+v the memory that was handed in is %q, was %q", o, all, was)
		}
		if !sameReply(got, want) {
			t.Fatalf("%+v = %s, want %s", o, script.Show(got), script.Show(want))
		}
		if got.Err == api.OK {
			met[o.Kind]++
		}
		wreckBytes(all)
		wreck(got.Nums, -99)
		wreckAll(config, touched.f)
		if !sameLook(lookAt(config, touched.f), lookAt(config, other.f)) || !slices.EqualFunc(touched.f.Trace(), other.f.Trace(), sameEvent) {
			t.Fatalf("behind %+v what a caller has written is seen", o)
		}
	}
	for _, line := range lives {
		step(op(t, line))
	}
	for number := range nodesOf(config) {
		for _, body := range [][]byte{nil, {}, theirs.order(), floorBody(config, 2), theirs.freeze(config, 3), bytes.Repeat([]byte{7}, 3000)} {
			step(api.Op{Kind: api.OpInject, Node: number, Body: body})
		}
	}
	for kind := 1; kind <= 21; kind++ {
		if met[kind] == 0 {
			t.Errorf("kind %d was never answered OK", kind)
		}
	}
}

// TestAnswersApartP26: an earlier answer stays as it is, whatever comes later.
func TestAnswersApartP26(t *testing.T) {
	r := begin(t, config)
	type answers struct {
		look  look
		trace []api.Event
	}
	var taken, copies []answers
	for _, line := range lives {
		r.f.Do(op(t, line))
		taken = append(taken, answers{lookAt(config, r.f), r.f.Trace()})
		copies = append(copies, answers{lookAt(config, r.f), r.f.Trace()})
	}
	for i := range taken {
		if !sameLook(taken[i].look, copies[i].look) || !slices.EqualFunc(taken[i].trace, copies[i].trace, sameEvent) {
			t.Errorf("what was answered behind line %d has changed", i)
		}
		// Two answers of one call share nothing.
		for _, f := range taken[i].look.files {
			wreckBytes(f.First)
			wreckBytes(f.Second)
		}
		for _, m := range taken[i].look.bag {
			wreckBytes(m.Body)
		}
		for _, e := range taken[i].trace {
			wreckBytes(e.Body)
		}
	}
	for i := range copies {
		if want := copies[len(copies)-1].trace[:len(copies[i].trace)]; !slices.EqualFunc(copies[i].trace, want, sameEvent) {
			t.Errorf("the trace behind line %d is no beginning of the last one", i)
		}
	}
}

// TestListsApartP26: no two lists of one answer share memory.
func TestListsApartP26(t *testing.T) {
	r := busy(t)
	trace, same := r.f.Trace(), r.f.Trace()
	for i := range trace {
		wreckBytes(trace[i].Body)
		if !slices.EqualFunc(trace[i+1:], same[i+1:], sameEvent) {
			t.Errorf("event %d shares memory with a later one", i)
		}
	}
	files, sameAs := r.f.Files(), r.f.Files()
	for i := range files {
		wreckBytes(files[i].First)
		if !bytes.Equal(files[i].Second, sameAs[i].Second) || !slices.EqualFunc(files[i+1:], sameAs[i+1:], sameFiles) {
			t.Errorf("the files of node %d share memory with others", i)
		}
		wreckBytes(files[i].Second)
	}
	bag, lying := r.f.Bag(), r.f.Bag()
	for i := range bag {
		wreckBytes(bag[i].Body)
		if !slices.EqualFunc(bag[i+1:], lying[i+1:], sameMessage) {
			t.Errorf("message %d shares memory with a later one", i)
		}
	}
}

// TestFilesHandedInP26_2: the files are left as they are, and are not kept; two fleets on one list of files share nothing.
func TestFilesHandedInP26_2(t *testing.T) {
	good := busy(t).f.Files()
	var files []api.Files
	var memory, was [][]byte
	for _, x := range good {
		first, all := framed(x.First)
		second, more := framed(x.Second)
		files = append(files, api.Files{First: first, Second: second})
		memory = append(memory, all, more)
	}
	for _, m := range memory {
		was = append(was, bytes.Clone(m))
	}
	list := slices.Clone(files)
	one, two, want := resume(t, config, files), resume(t, config, files), resume(t, config, good)
	for _, line := range []string{"ride 1 1 1", "buy 2 2 2", "freeze 1", "deliver 3", "deliver 2", "restart 1", "floor 1"} {
		if got, wanted := one.do(line), want.do(line); got != wanted {
			t.Errorf("%s = %s, want %s", line, got, wanted)
		}
	}
	if !slices.EqualFunc(memory, was, bytes.Equal) || !slices.EqualFunc(files, list, sameFiles) {
		t.Error("P26.2: the files that were handed in have changed")
	}
	wantSame(t, "P26.2: the other fleet", config, two.f, resume(t, config, good).f)
	for _, m := range memory {
		wreckBytes(m)
	}
	clear(files)
	wantSame(t, "P26.2: behind a change of the files", config, one.f, want.f)
	wantSame(t, "P26.2: behind a change of the files", config, two.f, resume(t, config, good).f)
	for number := range nodesOf(config) {
		one.do("restart " + string(rune('0'+number)))
	}
	wantSame(t, "P26.2: behind a change of the files, opened again", config, one.f, want.f)
}

// TestTextHandedInP26_14: a text is left as it is, and its replies are new memory, each its own.
func TestTextHandedInP26_14(t *testing.T) {
	text := []byte("")
	for _, line := range lives {
		text = append(text, line+"\nwhat 1\n"...)
	}
	piece, all := framed(text)
	was := bytes.Clone(all)
	one, _ := fleet.Play(config, piece)
	two, _ := fleet.Play(config, piece)
	want := fleet.Text(config, piece)
	if !bytes.Equal(all, was) || len(one) != 2*len(lives) {
		t.Errorf("P26.14: %d replies; the text that was handed in has changed: %v", len(one), !bytes.Equal(all, was))
	}
	kept := string([]byte(want))
	wreckBytes(all)
	for i := range one {
		wreck(one[i].Nums, -99)
		if !slices.EqualFunc(one[i+1:], two[i+1:], sameReply) {
			t.Errorf("P26.14: reply %d shares memory with a later one", i)
		}
	}
	got := ""
	for _, r := range two {
		got += script.Show(r) + "\n"
	}
	if got != kept || want != kept {
		t.Error("P26.14: what was answered has changed")
	}
}

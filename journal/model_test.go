package journal_test

import (
	"encoding/binary"
	"hash/crc32"
	"math/rand/v2"
	"slices"
	"strings"
	"testing"

	"farebox/api"
	"farebox/flash"
	"farebox/journal"
)

// last is the last epoch.
const last = uint64(1<<63 - 1)

// chance is a source of numbers that is the same in every run.
func chance(n uint64) *rand.Rand { return rand.New(rand.NewPCG(14, n)) }

// drawn is n bytes by chance.
func drawn(r *rand.Rand, n int) string {
	b := make([]byte, n)
	for i := range b {
		b[i] = byte(r.Uint32())
	}
	return string(b)
}

// framed is a frame, laid down by Go's own library.
func framed(kind byte, payload string) string {
	b := append([]byte{0xa5, kind}, binary.BigEndian.AppendUint32(nil, uint32(len(payload)))...)
	b = append(b, payload...)
	return string(binary.LittleEndian.AppendUint32(b, crc32.ChecksumIEEE(b[1:])))
}

// headed is a header.
func headed(epoch uint64, number uint32, snapshot string) string {
	b := binary.BigEndian.AppendUint64(nil, epoch)
	return framed(72, string(binary.BigEndian.AppendUint32(b, number))+snapshot)
}

// bankOf is a header with record frames behind it.
func bankOf(epoch uint64, number uint32, snapshot string, records ...string) string {
	b := headed(epoch, number, snapshot)
	for _, r := range records {
		b += framed(82, r)
	}
	return b
}

// peel is the whole frame at the front of the bytes, and what stands behind it.
func peel(b string) (kind byte, payload, rest string, ok bool) {
	if len(b) < 10 {
		return 0, "", "", false
	}
	n := uint64(binary.BigEndian.Uint32([]byte(b[2:6])))
	if n > 262144 || uint64(len(b)) < n+10 || b[:n+10] != framed(b[1], b[6:6+n]) {
		return 0, "", "", false
	}
	return b[1], b[6 : 6+n], b[n+10:], true
}

// bank is what a headed bank says.
type bank struct {
	epoch    uint64
	snapshot string
	records  []string
	tail     string
}

// look is what a bank of these bytes says, and whether it is headed.
func look(b string) (bank, bool) {
	kind, payload, rest, ok := peel(b)
	if !ok || kind != 'H' || len(payload) < 12 {
		return bank{}, false
	}
	k := bank{epoch: binary.BigEndian.Uint64([]byte(payload[:8])), snapshot: payload[12:], tail: rest}
	for {
		kind, payload, rest, ok := peel(k.tail)
		if !ok || kind != 'R' {
			break
		}
		k.records, k.tail = append(k.records, payload), rest
	}
	number := binary.BigEndian.Uint32([]byte(payload[8:12]))
	if k.epoch == 0 || k.epoch >= 1<<63 || int64(number) > int64(len(k.records)) {
		return bank{}, false
	}
	return k, true
}

// choose is which bank is the journal's (-1: none), and what it says.
func choose(banks [2]string) (int, bank) {
	first, one := look(banks[0])
	second, two := look(banks[1])
	switch {
	case one && two && second.epoch > first.epoch, two && !one:
		return 1, second
	case one:
		return 0, first
	}
	return -1, bank{}
}

// model is a journal by the chapter's words, on a flash of its own.
type model struct {
	f     *flash.Flash
	size  int
	bank  int
	epoch uint64
	count int
	dead  bool
}

func filesOf(f *flash.Flash) [2]string {
	first, second := f.Files()
	return [2]string{string(first), string(second)}
}

// inTurn makes writes up to the first that is not OK.
func inTurn(writes ...func() api.Errno) api.Errno {
	for _, w := range writes {
		if err := w(); err != api.OK {
			return err
		}
	}
	return api.OK
}

// erasing erases a bank if it has bytes when its turn comes.
func erasing(f *flash.Flash, bank int) func() api.Errno {
	return func() api.Errno {
		if filesOf(f)[bank] == "" {
			return api.OK
		}
		return f.Erase(bank)
	}
}

func appending(f *flash.Flash, bank int, b string) func() api.Errno {
	return func() api.Errno { return f.Append(bank, []byte(b)) }
}

func modelFormat(f *flash.Flash, size int, snapshot string) api.Errno {
	switch {
	case f.Down():
		return api.ErrDown
	case len(snapshot) > 262132:
		return api.ErrLong
	case len(snapshot)+22 > size:
		return api.ErrFull
	}
	return inTurn(erasing(f, 1), erasing(f, 0), appending(f, 0, headed(1, 0, snapshot)))
}

func modelOpen(f *flash.Flash, size int) (*model, api.Recovered, api.Errno) {
	if f.Down() {
		return nil, api.Recovered{}, api.ErrDown
	}
	at, k := choose(filesOf(f))
	m := &model{f: f, size: size, bank: at, epoch: k.epoch, count: len(k.records)}
	var err api.Errno
	switch {
	case at < 0:
		err = api.ErrBlank
	case k.tail == "":
		err = erasing(f, 1-at)()
	case k.epoch == last:
		err = api.ErrRange
	default:
		m.bank, m.epoch = 1-at, k.epoch+1
		moved := bankOf(m.epoch, uint32(m.count), k.snapshot, k.records...)
		err = inTurn(erasing(f, 1-at), appending(f, 1-at, moved), erasing(f, at))
	}
	if err != api.OK {
		return nil, api.Recovered{}, err
	}
	return m, recovered(m.epoch, k.snapshot, k.records, len(k.tail)), api.OK
}

func recovered(epoch uint64, snapshot string, records []string, cut int) api.Recovered {
	r := api.Recovered{Epoch: int(epoch), Snapshot: []byte(snapshot), Cut: cut}
	for _, x := range records {
		r.Records = append(r.Records, []byte(x))
	}
	return r
}

func (m *model) room() int {
	if m.dead {
		return 0
	}
	return m.size - len(filesOf(m.f)[m.bank])
}

// done makes writes; a Journal that goes down under them is dead.
func (m *model) done(writes ...func() api.Errno) api.Errno {
	err := inTurn(writes...)
	if err != api.OK {
		m.dead, m.epoch, m.count = true, 0, 0
	}
	return err
}

func (m *model) append(record string) api.Errno {
	switch {
	case m.dead:
		return api.ErrDown
	case len(record) > 262144:
		return api.ErrLong
	case len(record)+10 > m.room():
		return api.ErrFull
	}
	err := m.done(appending(m.f, m.bank, framed('R', record)))
	if err == api.OK {
		m.count++
	}
	return err
}

// refusal is why Compact is refused, if it is.
func (m *model) refusal(snapshot string) api.Errno {
	switch {
	case m.dead:
		return api.ErrDown
	case len(snapshot) > 262132:
		return api.ErrLong
	case m.epoch == last:
		return api.ErrRange
	case len(snapshot)+22 > m.size:
		return api.ErrFull
	}
	return api.OK
}

func (m *model) compact(snapshot string) api.Errno {
	if err := m.refusal(snapshot); err != api.OK {
		return err
	}
	other, next := 1-m.bank, m.epoch+1
	err := m.done(erasing(m.f, other), appending(m.f, other, headed(next, 0, snapshot)))
	if err == api.OK {
		m.bank, m.epoch, m.count = other, next, 0
	}
	return err
}

func (m *model) keep(record, snapshot string) api.Errno {
	if err := m.append(record); err != api.ErrFull {
		return err
	}
	if err := m.refusal(snapshot); err != api.OK {
		return err
	}
	if len(snapshot)+22+len(record)+10 > m.size {
		return api.ErrFull
	}
	if err := m.compact(snapshot); err != api.OK {
		return err
	}
	return m.append(record)
}

// short tells bytes of any number in a line.
func short(b string) string { return b[:min(len(b), 60)] }

func wantErr(t *testing.T, what string, got, want api.Errno) {
	t.Helper()
	if got != want {
		t.Errorf("%s = %d, want %d", what, got, want)
	}
}

func wantFiles(t *testing.T, what string, f *flash.Flash, want [2]string) {
	t.Helper()
	for i, got := range filesOf(f) {
		if got != want[i] {
			t.Errorf("%s: bank %d has %d bytes %q, want %d bytes %q", what, i, len(got), short(got), len(want[i]), short(want[i]))
		}
	}
}

func sameRecovered(a, b api.Recovered) bool {
	same := func(x, y []byte) bool { return string(x) == string(y) }
	return a.Epoch == b.Epoch && a.Cut == b.Cut && same(a.Snapshot, b.Snapshot) && slices.EqualFunc(a.Records, b.Records, same)
}

// zeroRecovered tells whether nothing was found.
func zeroRecovered(r api.Recovered) bool {
	return r.Epoch == 0 && len(r.Snapshot) == 0 && len(r.Records) == 0 && r.Cut == 0
}

// wantNumbers asks a Journal for its three numbers.
func wantNumbers(t *testing.T, what string, j *journal.Journal, room, epoch, count int) {
	t.Helper()
	if j.Room() != room || j.Epoch() != epoch || j.Count() != count {
		t.Errorf("P14.6: %s: Room %d, Epoch %d, Count %d, want %d, %d, %d", what, j.Room(), j.Epoch(), j.Count(), room, epoch, count)
	}
}

// pair is a journal and its model, each on a flash of its own; they are told the same.
type pair struct {
	t    *testing.T
	size int
	f, g *flash.Flash
	j    *journal.Journal // nil, if none is open
	m    *model
}

func pairOf(t *testing.T, size int, first, second string) *pair {
	return &pair{t: t, size: size, f: flash.Load(size, []byte(first), []byte(second)), g: flash.Load(size, []byte(first), []byte(second))}
}

// same holds an answer, and all that can be asked behind it, against the model's.
func (p *pair) same(what string, got, want api.Errno) {
	p.t.Helper()
	wantErr(p.t, what, got, want)
	wantFiles(p.t, what, p.f, filesOf(p.g))
	if p.f.Down() != p.g.Down() || p.f.Writes() != p.g.Writes() {
		p.t.Errorf("%s: down %v, %d writes, want %v, %d", what, p.f.Down(), p.f.Writes(), p.g.Down(), p.g.Writes())
	}
	if p.j != nil {
		wantNumbers(p.t, what, p.j, p.m.room(), int(p.m.epoch), p.m.count)
	}
	if p.t.Failed() {
		p.t.FailNow()
	}
}

// leave forgets the Journal if somebody else has written.
func (p *pair) leave(writes int) {
	if p.f.Writes() != writes {
		p.j, p.m = nil, nil
	}
}

func (p *pair) format(snapshot string) {
	p.t.Helper()
	writes := p.f.Writes()
	got, want := journal.Format(p.f, []byte(snapshot)), modelFormat(p.g, p.size, snapshot)
	p.leave(writes)
	p.same("P14.1: Format", got, want)
}

func (p *pair) open() {
	p.t.Helper()
	writes := p.f.Writes()
	j, found, got := journal.Open(p.f)
	m, want, wantErr := modelOpen(p.g, p.size)
	if (j == nil) != (got != api.OK) || !sameRecovered(found, want) {
		p.t.Errorf("P14.2: Open = %v, %+v, %d, want %+v", j != nil, found, got, want)
	}
	p.leave(writes)
	if got == api.OK {
		p.j, p.m = j, m
	}
	p.same("P14.2: Open", got, wantErr)
}

func (p *pair) append(record string) {
	p.t.Helper()
	p.same("P14.3: Append", p.j.Append([]byte(record)), p.m.append(record))
}

func (p *pair) compact(snapshot string) {
	p.t.Helper()
	p.same("P14.4: Compact", p.j.Compact([]byte(snapshot)), p.m.compact(snapshot))
}

func (p *pair) keep(record, snapshot string) {
	p.t.Helper()
	p.same("P14.5: Keep", p.j.Keep([]byte(record), []byte(snapshot)), p.m.keep(record, snapshot))
}

func (p *pair) arm(after, keep int) {
	p.f.Arm(after, keep)
	p.g.Arm(after, keep)
}

func (p *pair) restart() {
	p.f.Restart()
	p.g.Restart()
}

// step tells both one thing that is drawn by chance.
func (p *pair) step(r *rand.Rand) {
	p.t.Helper()
	n := r.IntN(40)
	switch {
	case n < 2:
		p.format(drawn(r, r.IntN(p.size)))
	case n < 6:
		p.open()
	case n < 10:
		p.arm(1+r.IntN(5), r.IntN(p.size))
	case n < 14:
		p.restart()
	case p.j == nil:
		p.restart()
		p.open()
	case n < 24:
		p.append(drawn(r, r.IntN(30)))
	case n < 28:
		p.compact(drawn(r, r.IntN(40)))
	case n < 36:
		p.keep(drawn(r, r.IntN(50)), drawn(r, r.IntN(50)))
	default:
		p.keep(drawn(r, r.IntN(p.size)), drawn(r, r.IntN(p.size)))
	}
}

// TestModelP14: long runs of calls by chance, with crashes; each answer, and the banks behind it, held against the model.
func TestModelP14(t *testing.T) {
	for n := range uint64(400) {
		r := chance(n)
		p := pairOf(t, 30+r.IntN(200), mixture(r), mixture(r))
		for range 100 {
			p.step(r)
		}
	}
}

// TestSameAnswersP14: what is answered hangs on the flash and the calls alone; two journals that are told the same do not hear of each other.
func TestSameAnswersP14(t *testing.T) {
	one, two := pairOf(t, 150, "", ""), pairOf(t, 150, "", "")
	r, s := chance(1000), chance(1000)
	for range 300 {
		one.step(r)
	}
	wantFiles(t, "the other", two.f, [2]string{})
	for range 300 {
		two.step(s)
	}
	wantFiles(t, "told the same", two.f, filesOf(one.f))
}

// mixture is a bank's bytes by chance: mostly a header and records, now and then spoilt.
func mixture(r *rand.Rand) string {
	epochs := []uint64{0, 1, 2, 2, 3, 3, 4, 255, 256, 1 << 32, last - 1, last, last + 1, ^uint64(0)}
	var b string
	if r.IntN(6) > 0 {
		b = headed(epochs[r.IntN(len(epochs))], uint32(max(r.IntN(7)-3, 0)), drawn(r, r.IntN(8)))
	}
	for range r.IntN(6) {
		switch r.IntN(14) {
		case 0:
			b += drawn(r, r.IntN(9))
		case 1:
			b += framed(byte(r.Uint32()), drawn(r, r.IntN(14)))
		case 2:
			b += headed(uint64(r.IntN(5)), 0, "")
		case 3:
			b += strings.Repeat("\xff", r.IntN(5))
		default:
			b += framed(82, drawn(r, r.IntN(9)))
		}
	}
	return spoilt(r, b)
}

// spoilt cuts bytes off, turns a bit, or leaves everything as it is.
func spoilt(r *rand.Rand, b string) string {
	if b == "" {
		return b
	}
	at := r.IntN(len(b))
	switch r.IntN(8) {
	case 0:
		return b[:at]
	case 1:
		return b[:at] + string([]byte{b[at] ^ 1<<r.IntN(8)}) + b[at+1:]
	case 2:
		return strings.Repeat("\xff", at%12) + b[min(len(b), at%12):]
	}
	return b
}

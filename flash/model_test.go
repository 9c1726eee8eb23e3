package flash_test

import (
	"bytes"
	"math/rand/v2"
	"strings"
	"testing"

	"farebox/api"
	"farebox/flash"
)

func chance(n uint64) *rand.Rand { return rand.New(rand.NewPCG(12, n)) }

// drawn is n bytes by chance, none of them 0xFF, so that what an Erase leaves can be told from them.
func drawn(r *rand.Rand, n int) []byte {
	b := make([]byte, n)
	for i := range b {
		b[i] = byte(r.IntN(255))
	}
	return b
}

// model is a flash by the chapter's words: banks are texts, and the first crash knows the number of writes from which on it counts.
type model struct {
	size   int
	banks  [2]string
	queue  [][2]int
	since  int
	down   bool
	writes int
}

func modelOf(size int, first, second string) *model {
	size = min(max(size, 0), 1048576)
	return &model{size: size, banks: [2]string{first[:min(size, len(first))], second[:min(size, len(second))]}}
}

func (m *model) refusal(bank int) api.Errno {
	switch {
	case bank != 0 && bank != 1:
		return api.ErrBank
	case m.down:
		return api.ErrDown
	}
	return api.OK
}

// write counts a write; it tells the bytes to keep, or -1 where the flash stays up.
func (m *model) write() int {
	m.writes++
	if len(m.queue) == 0 || m.writes-m.since < m.queue[0][0] {
		return -1
	}
	keep := m.queue[0][1]
	m.queue, m.since, m.down = m.queue[1:], m.writes, true
	return keep
}

func (m *model) append(bank int, b string) api.Errno {
	if err := m.refusal(bank); err != api.OK {
		return err
	}
	if len(m.banks[bank])+len(b) > m.size {
		return api.ErrFull
	}
	keep := m.write()
	if keep < 0 {
		m.banks[bank] += b
		return api.OK
	}
	m.banks[bank] += b[:min(keep, len(b))]
	return api.ErrDown
}

func (m *model) erase(bank int) api.Errno {
	if err := m.refusal(bank); err != api.OK {
		return err
	}
	keep, was := m.write(), m.banks[bank]
	m.banks[bank] = ""
	if keep < 0 {
		return api.OK
	}
	if keep < len(was) {
		m.banks[bank] = strings.Repeat("\xff", keep) + was[keep:]
	}
	return api.ErrDown
}

func (m *model) arm(after, keep int) api.Errno {
	switch {
	case after < 1 || after > 1000000 || keep < 0 || keep > 1048576:
		return api.ErrArg
	case len(m.queue) == 64:
		return api.ErrLong
	case len(m.queue) == 0:
		m.since = m.writes
	}
	m.queue = append(m.queue, [2]int{after, keep})
	return api.OK
}

func (m *model) disarm() { m.queue = nil }

func (m *model) restart() api.Errno {
	if !m.down {
		return api.ErrUp
	}
	m.down = false
	return api.OK
}

func wantErr(t *testing.T, what string, got, want api.Errno) {
	t.Helper()
	if got != want {
		t.Errorf("%s = %d, want %d", what, got, want)
	}
}

func wantFiles(t *testing.T, what string, f *flash.Flash, first, second string) {
	t.Helper()
	if a, b := f.Files(); string(a) != first || string(b) != second {
		t.Errorf("%s: the banks are %.40q, %.40q (%d, %d bytes), want %.40q, %.40q (%d, %d)", what, a, b, len(a), len(b), first, second, len(first), len(second))
	}
}

// wantSame asks a flash everything that it tells, and holds it against the model.
func wantSame(t *testing.T, what string, f *flash.Flash, m *model) {
	t.Helper()
	wantFiles(t, what, f, m.banks[0], m.banks[1])
	if f.Down() != m.down || f.Writes() != m.writes {
		t.Errorf("%s: Down %v, Writes %d, want %v, %d", what, f.Down(), f.Writes(), m.down, m.writes)
	}
	for bank := -1; bank <= 2; bank++ {
		text, room, err := "", 0, m.refusal(bank)
		if err == api.OK {
			text, room = m.banks[bank], m.size-len(m.banks[bank])
		}
		if b, e := f.Read(bank); string(b) != text || e != err || e != api.OK && b != nil {
			t.Errorf("%s: Read(%d) = %.40q, %d, want %.40q, %d", what, bank, b, e, text, err)
		}
		if n, e := f.Room(bank); n != room || e != err {
			t.Errorf("%s: Room(%d) = %d, %d, want %d, %d", what, bank, n, e, room, err)
		}
	}
}

// pair is a flash and its model, which are told the same.
type pair struct {
	t *testing.T
	f *flash.Flash
	m *model
}

func pairOf(t *testing.T, size int, first, second string) *pair {
	t.Helper()
	p := &pair{t, flash.Load(size, []byte(first), []byte(second)), modelOf(size, first, second)}
	wantSame(t, "Load", p.f, p.m)
	return p
}

func (p *pair) append(bank int, b string) {
	p.t.Helper()
	wantErr(p.t, "Append", p.f.Append(bank, []byte(b)), p.m.append(bank, b))
	wantSame(p.t, "behind an Append", p.f, p.m)
}

func (p *pair) erase(bank int) {
	p.t.Helper()
	wantErr(p.t, "Erase", p.f.Erase(bank), p.m.erase(bank))
	wantSame(p.t, "behind an Erase", p.f, p.m)
}

func (p *pair) arm(after, keep int) {
	p.t.Helper()
	wantErr(p.t, "Arm", p.f.Arm(after, keep), p.m.arm(after, keep))
	wantSame(p.t, "behind an Arm", p.f, p.m)
}

func (p *pair) disarm() {
	p.t.Helper()
	p.f.Disarm()
	p.m.disarm()
	wantSame(p.t, "behind a Disarm", p.f, p.m)
}

func (p *pair) restart() {
	p.t.Helper()
	wantErr(p.t, "Restart", p.f.Restart(), p.m.restart())
	wantSame(p.t, "behind a Restart", p.f, p.m)
}

// step tells both one thing that is drawn by chance: mostly what may be done, now and then what may not.
func (p *pair) step(r *rand.Rand) {
	p.t.Helper()
	bank := r.IntN(2)
	if r.IntN(12) == 0 {
		bank = r.IntN(7) - 3
	}
	switch n := r.IntN(20); {
	case n < 10:
		p.append(bank, string(drawn(r, r.IntN(14))))
	case n < 13:
		p.erase(bank)
	case n < 16:
		p.arm(r.IntN(6), r.IntN(16)-1)
	case n == 16 && r.IntN(4) == 0:
		p.disarm()
	default:
		p.restart()
	}
}

// TestModelP12: long runs of calls by chance, each answer held against the model.
func TestModelP12(t *testing.T) {
	for n := range uint64(300) {
		r := chance(n)
		size := r.IntN(60) - 2
		p := pairOf(t, size, string(drawn(r, r.IntN(40))), string(drawn(r, r.IntN(40))))
		for range 120 {
			p.step(r)
		}
		if t.Failed() {
			t.Fatalf("run %d, of size %d", n, size)
		}
	}
}

// TestSameAnswersP12: two flashes that are told the same answer the same, and neither hears of the other.
func TestSameAnswersP12(t *testing.T) {
	one, two := pairOf(t, 50, "ab", "c"), pairOf(t, 50, "ab", "c")
	r, s := chance(1000), chance(1000)
	for range 200 {
		one.step(r)
	}
	wantSame(t, "the other one", two.f, two.m)
	for range 200 {
		two.step(s)
	}
	a, b := one.f.Files()
	if c, d := two.f.Files(); !bytes.Equal(a, c) || !bytes.Equal(b, d) || one.f.Writes() != two.f.Writes() {
		t.Errorf("told the same: %q, %q and %q, %q", a, b, c, d)
	}
}

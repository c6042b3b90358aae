package assign_test

import (
	"math"
	"math/rand"
	"testing"

	"murmuration/api"
	"murmuration/assign"
)

func plan(t *testing.T, chunks, peers, window, time int) *assign.Plan {
	t.Helper()
	p, e := assign.New(chunks, peers, window, time)
	if e != api.OK || p == nil {
		t.Fatal(e)
	}
	return p
}

func next(t *testing.T, p *assign.Plan, now, chunk, peer int) {
	t.Helper()
	if c, n, ok := p.Next(now); c != chunk || n != peer || !ok {
		t.Errorf("Next(%d): %d, %d, %v; want %d, %d", now, c, n, ok, chunk, peer)
	}
}

func none(t *testing.T, p *assign.Plan, now int) {
	t.Helper()
	if c, n, ok := p.Next(now); c != 0 || n != 0 || ok {
		t.Errorf("Next(%d): %d, %d, %v; want none", now, c, n, ok)
	}
}

// P23.1: New.
func TestNew(t *testing.T) {
	for _, x := range [][4]int{{-1, 1, 1, 1}, {101, 1, 1, 1}, {1, -1, 1, 1}, {1, 65, 1, 1}, {1, 1, 0, 1}, {1, 1, 101, 1}, {1, 1, 1, 0}, {1, 1, 1, 1000001}, {math.MinInt, 1, 1, 1}, {1, math.MaxInt, 1, 1}, {1, 1, -1, -1}} {
		if p, e := assign.New(x[0], x[1], x[2], x[3]); p != nil || e != api.ErrArg {
			t.Error(x, e)
		}
	}
	for _, x := range [][4]int{{0, 0, 1, 1}, {100, 64, 100, 1000000}} {
		p := plan(t, x[0], x[1], x[2], x[3])
		if p.Left() != x[0] {
			t.Error(x)
		}
	}
	p := plan(t, 0, 0, 1, 1)
	if p.Stuck() || p.Had(0) != api.ErrNone || p.Bad(0, 0) != api.ErrNone {
		t.Error("a plan for nothing")
	}
	none(t, p, 0)
}

// P23.2: the example.
func TestExample(t *testing.T) {
	p := plan(t, 2, 2, 1, 5)
	next(t, p, 0, 0, 0)
	next(t, p, 0, 1, 1)
	none(t, p, 0)
	if p.Bad(0, 0) != api.OK || p.Demerits(0) != 1 {
		t.Error("Bad")
	}
	next(t, p, 1, 0, 0)
}

// P23.2: which peer: fewest times, then fewest asked, then fewest demerits, then the least.
func TestRank(t *testing.T) {
	p := plan(t, 4, 3, 2, 5)
	next(t, p, 0, 0, 0)
	next(t, p, 0, 1, 1)
	next(t, p, 0, 2, 2)
	next(t, p, 0, 3, 0)
	p.Bad(0, 0)
	next(t, p, 0, 0, 1)
	p.Bad(0, 1)
	next(t, p, 0, 0, 2)
	p.Bad(0, 2)
	p.Had(1)
	next(t, p, 0, 0, 1)
	p.Bad(0, 1)
	if p.Demerits(0) != 1 || p.Demerits(1) != 2 || p.Demerits(2) != 1 {
		t.Error("demerits")
	}
	next(t, p, 0, 0, 0)
	none(t, p, 0)
	p = plan(t, 2, 2, 5, 5)
	next(t, p, 0, 0, 0)
	p.Bad(0, 0)
	next(t, p, 0, 0, 1)
	p.Had(0)
	next(t, p, 0, 1, 1)
	if p.Bad(1, 1); p.Demerits(1) != 1 {
		t.Error("fewest demerits")
	}
}

// P23.2: late chunks are open again, and cost a demerit.
func TestLate(t *testing.T) {
	p := plan(t, 3, 2, 2, 5)
	next(t, p, -9, 0, 0)
	next(t, p, -9, 1, 1)
	next(t, p, -8, 2, 0)
	none(t, p, -5)
	if p.State(0) != api.ChunkAsked || p.Demerits(0) != 0 {
		t.Error("too early")
	}
	next(t, p, -4, 0, 1)
	next(t, p, -4, 1, 0)
	if p.Demerits(0) != 1 || p.Demerits(1) != 1 {
		t.Error("demerits", p.Demerits(0), p.Demerits(1))
	}
	if n, since, ok := p.Asked(0); n != 1 || since != -4 || !ok {
		t.Error(n, since, ok)
	}
	next(t, p, -3, 2, 1)
	if p.Demerits(0) != 2 {
		t.Error("demerits")
	}
	p = plan(t, 1, 2, 1, 1)
	next(t, p, math.MinInt, 0, 0)
	next(t, p, math.MaxInt, 0, 1)
}

// P23.2: who is banned is asked no more; what is asked of it stays asked.
func TestBanned(t *testing.T) {
	p := plan(t, 5, 1, 5, 5)
	for c := range 5 {
		next(t, p, 0, c, 0)
	}
	for c := range 3 {
		if p.Stuck() || p.Bad(c, 0) != api.OK {
			t.Error("Bad", c)
		}
	}
	if p.Demerits(0) != 3 || !p.Stuck() || p.State(4) != api.ChunkAsked {
		t.Error("banned")
	}
	none(t, p, 0)
	none(t, p, 5)
	if p.Demerits(0) != 5 || p.State(4) != api.ChunkOpen || p.Left() != 5 {
		t.Error("late ones of a banned peer", p.Demerits(0))
	}
	for c := range 5 {
		if p.Had(c) != api.OK {
			t.Error("Had", c)
		}
	}
	if p.Stuck() || p.Left() != 0 {
		t.Error("all had")
	}
	if p := plan(t, 1, 0, 1, 1); !p.Stuck() {
		t.Error("nobody to ask")
	}
}

// P23.3: Had and Bad.
func TestHadBad(t *testing.T) {
	p := plan(t, 2, 2, 1, 5)
	for _, c := range []int{-1, 2, math.MaxInt} {
		if p.Had(c) != api.ErrNone || p.Bad(c, 0) != api.ErrNone || p.Bad(0, c) != api.ErrNone || p.State(c) != api.ChunkOpen || p.Demerits(c) != 0 {
			t.Error(c)
		}
	}
	if p.Bad(0, 0) != api.ErrArg {
		t.Error("an open chunk")
	}
	next(t, p, 3, 0, 0)
	if p.Bad(0, 1) != api.ErrArg || p.Bad(1, 0) != api.ErrArg {
		t.Error("another peer")
	}
	if n, since, ok := p.Asked(0); n != 0 || since != 3 || !ok {
		t.Error(n, since, ok)
	}
	if p.Had(0) != api.OK || p.Had(0) != api.ErrTwice || p.Bad(0, 0) != api.ErrArg || p.State(0) != api.ChunkHad || p.Left() != 1 {
		t.Error("Had")
	}
	if n, since, ok := p.Asked(0); n != 0 || since != 0 || ok {
		t.Error(n, since, ok)
	}
	next(t, p, 3, 1, 0)
	if p.Demerits(0) != 0 {
		t.Error("demerits")
	}
	q := plan(t, 1, 1, 1, 1)
	if q.Had(0) != api.OK || q.Left() != 0 {
		t.Error("an open chunk may be had")
	}
}

// P23.4: a copy goes its own way.
func TestCopy(t *testing.T) {
	p := plan(t, 2, 2, 1, 5)
	next(t, p, 0, 0, 0)
	c := p.Copy()
	c.Bad(0, 0)
	next(t, c, 0, 0, 1)
	next(t, c, 0, 1, 0)
	if p.Demerits(0) != 0 || p.State(1) != api.ChunkOpen {
		t.Error("they share")
	}
	p.Bad(0, 0)
	next(t, p, 0, 0, 1)
	next(t, p, 0, 1, 0)
}

// P23.4: a plan that is not there.
func TestNone(t *testing.T) {
	for _, p := range []*assign.Plan{nil, {}} {
		none(t, p, 0)
		n, since, ok := p.Asked(0)
		if p.Had(0) != api.ErrNil || p.Bad(0, 0) != api.ErrNil || p.State(0) != 0 || n != 0 || since != 0 || ok || p.Demerits(0) != 0 || p.Left() != 0 || p.Stuck() {
			t.Error("answers")
		}
		if p.Copy() != nil {
			t.Error("Copy")
		}
	}
}

// model is a plan as plain as it is told.
type model struct {
	window, time int
	state        []api.ChunkState
	of, since    []int
	demerits     []int
	asked        [][]int
}

func (m *model) under(n int) (k int) {
	for c, s := range m.state {
		if s == api.ChunkAsked && m.of[c] == n {
			k++
		}
	}
	return k
}

func (m *model) next(now int) (int, int, bool) {
	for c, s := range m.state {
		if s == api.ChunkAsked && now-m.since[c] >= m.time {
			m.state[c] = api.ChunkOpen
			m.demerits[m.of[c]]++
		}
	}
	for c, s := range m.state {
		if s != api.ChunkOpen {
			continue
		}
		best := -1
		for n := range m.demerits {
			if m.demerits[n] >= 3 || m.under(n) >= m.window {
				continue
			}
			if best < 0 || m.less(c, n, best) {
				best = n
			}
		}
		if best < 0 {
			return 0, 0, false
		}
		m.state[c], m.of[c], m.since[c] = api.ChunkAsked, best, now
		m.asked[c][best]++
		return c, best, true
	}
	return 0, 0, false
}

func (m *model) less(c, n, o int) bool {
	if m.asked[c][n] != m.asked[c][o] {
		return m.asked[c][n] < m.asked[c][o]
	}
	if m.under(n) != m.under(o) {
		return m.under(n) < m.under(o)
	}
	return m.demerits[n] < m.demerits[o]
}

// P23.2, P23.3: the same as the model, whatever is called.
func TestModel(t *testing.T) {
	r := rand.New(rand.NewSource(23))
	for range 400 {
		chunks, peers, window, time := 1+r.Intn(8), 1+r.Intn(5), 1+r.Intn(3), 1+r.Intn(6)
		p := plan(t, chunks, peers, window, time)
		m := &model{window: window, time: time, state: make([]api.ChunkState, chunks), of: make([]int, chunks), since: make([]int, chunks), demerits: make([]int, peers)}
		for range chunks {
			m.asked = append(m.asked, make([]int, peers))
		}
		now := 0
		for range 60 {
			now += r.Intn(2)
			c, n := r.Intn(chunks), r.Intn(peers)
			switch r.Intn(6) {
			case 0:
				if p.Bad(c, n) == api.OK {
					m.state[c] = api.ChunkOpen
					m.demerits[n]++
				}
			case 1:
				p.Had(c)
				m.state[c] = api.ChunkHad
			default:
				c, n, ok := p.Next(now)
				mc, mn, mok := m.next(now)
				if c != mc || n != mn || ok != mok {
					t.Fatalf("%d, %d, %v; want %d, %d, %v", c, n, ok, mc, mn, mok)
				}
			}
			for c := range chunks {
				if p.State(c) != m.state[c] {
					t.Fatal("state of", c)
				}
			}
			for n := range peers {
				if p.Demerits(n) != m.demerits[n] || m.under(n) > window {
					t.Fatal("peer", n)
				}
			}
		}
	}
}
